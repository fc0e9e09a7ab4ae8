import Derived.Test.YtcoccggimbficaaGreatDoorUh
import Derived.Test.YtcoccggimbficaaGreatDoorUi
import Derived.Test.YtcoccggimbficaaGreatDoorWb
import Derived.Test.YtcoccggimbficaaGreatDoorWf
import Derived.Laws.Rows
import Derived.Deep.LoopGhost
namespace Go.Proofs.YtcoccggimbficaaGreatDoor
open Go Go.RowKit Go.Sort
set_option linter.unusedSimpArgs false
set_option linter.unusedVariables false

/-! ### The cells of lists -/
def cB (z : Nat → Int) (n : Nat) : List Value := (List.range n).map fun i => .int .u8 (z i)
def cI (z : Nat → Int) (n : Nat) : List Value := (List.range n).map fun i => .int .i64 (z i)
def cS (z : Nat → ByteArray) (n : Nat) : List Value := (List.range n).map fun i => .string (z i)
def cA (f : Nat → ByteArray) (q : Nat → Int) (n : Nat) : List Value := (List.range n).flatMap fun i => [.string (f i), .int .i64 (q i)]
theorem map_at (h : Nat → Value) (n j : Nat) (hj : j < n) : ((List.range n).map h)[j]? = some (h j) := by rw [List.getElem?_map, List.getElem?_range hj]; rfl
theorem map_get (h : Nat → Value) (n j : Nat) (u : Value) (hu : ((List.range n).map h)[j]? = some u) : j < n ∧ u = h j := by
  rw [List.getElem?_map] at hu
  by_cases hj : j < n
  · rw [List.getElem?_range hj] at hu
    exact ⟨hj, (Option.some.inj hu).symm⟩
  · rw [List.getElem?_eq_none (by simpa using hj)] at hu
    cases hu
theorem pair_len (a b : Nat → Value) (n : Nat) : ((List.range n).flatMap fun i => [a i, b i]).length = n * 2 := by
  induction n with
  | zero => rfl
  | succ n ih => rw [List.range_succ, List.flatMap_append, List.length_append, ih]; simp; omega
theorem pair_at (a b : Nat → Value) (n i : Nat) (hi : i < n) : ((List.range n).flatMap fun i => [a i, b i])[i * 2]? = some (a i) ∧ ((List.range n).flatMap fun i => [a i, b i])[i * 2 + 1]? = some (b i) := by
  induction n with
  | zero => omega
  | succ n ih =>
    rw [List.range_succ, List.flatMap_append]
    have hl := pair_len a b n
    by_cases h : i < n
    · rw [List.getElem?_append_left (by omega), List.getElem?_append_left (by omega)]; exact ih h
    · obtain rfl : i = n := by omega
      rw [List.getElem?_append_right (by omega), List.getElem?_append_right (by omega), hl]
      simp
theorem pair_get (a b : Nat → Value) (n j : Nat) (u : Value) (hu : ((List.range n).flatMap fun i => [a i, b i])[j]? = some u) : ∃ i, i < n ∧ ((j = i * 2 ∧ u = a i) ∨ (j = i * 2 + 1 ∧ u = b i)) := by
  have hj : j < n * 2 := by
    have := (List.getElem?_eq_some_iff.1 hu).1
    rw [pair_len] at this; exact this
  refine ⟨j / 2, by omega, ?_⟩
  have h := pair_at a b n (j / 2) (by omega)
  rcases Nat.mod_two_eq_zero_or_one j with h0 | h0
  · left
    have e : j = j / 2 * 2 := by omega
    refine ⟨e, ?_⟩
    rw [← e, hu] at h
    exact Option.some.inj h.1
  · right
    have e : j = j / 2 * 2 + 1 := by omega
    refine ⟨e, ?_⟩
    rw [← e, hu] at h
    exact Option.some.inj h.2

/-- A list that isn't there has no room. -/
def Nil (s : Sl) : Prop := s.a = none → s.n = 0 ∧ s.c = 0
theorem src_empty {w : World} {s : Sl} {xs : List Value} (hn : Nil s) (h0 : xs = []) : Src w s xs := by
  subst h0
  cases ha : s.a with
  | none => exact .inl ⟨ha, (hn ha).1, (hn ha).2⟩
  | some ad => exact .inr ⟨ad, ha, fun j u hj => by simp at hj⟩
theorem By.src {w : World} {s : Sl} {z : Nat → Int} (h : By w s z) (hn : Nil s) : Src w s (cB z s.n) := by
  obtain ⟨_, _, h0 | ⟨b, off, e, hc⟩⟩ := h
  · exact src_empty hn (by rw [h0]; rfl)
  · exact .inr ⟨_, e, fun j u hj => by obtain ⟨h1, rfl⟩ := map_get _ _ _ _ hj; rw [plain_add]; exact hc j h1⟩
theorem Is.src {w : World} {s : Sl} {z : Nat → Int} (h : Is w s z) (hn : Nil s) : Src w s (cI z s.n) := by
  obtain ⟨_, h0 | ⟨b, off, e, hc⟩⟩ := h
  · exact src_empty hn (by rw [h0]; rfl)
  · exact .inr ⟨_, e, fun j u hj => by obtain ⟨h1, rfl⟩ := map_get _ _ _ _ hj; rw [plain_add]; exact hc j h1⟩
theorem Ss.src {w : World} {s : Sl} {z : Nat → ByteArray} (h : Ss w s z) (hn : Nil s) : Src w s (cS z s.n) := by
  obtain ⟨_, h0 | ⟨b, off, e, hc⟩⟩ := h
  · exact src_empty hn (by rw [h0]; rfl)
  · exact .inr ⟨_, e, fun j u hj => by obtain ⟨h1, rfl⟩ := map_get _ _ _ _ hj; rw [plain_add]; exact hc j h1⟩
theorem As.src {w : World} {s : Sl} {f : Nat → ByteArray} {q : Nat → Int} (h : As w s f q) (hn : Nil s) : Src w s (cA f q s.n) := by
  obtain ⟨_, h0 | ⟨b, off, e, hc⟩⟩ := h
  · exact src_empty hn (by rw [h0]; rfl)
  · refine .inr ⟨_, e, fun j u hj => ?_⟩
    obtain ⟨i, hi, ⟨rfl, rfl⟩ | ⟨rfl, rfl⟩⟩ := pair_get _ _ _ _ _ hj
    · rw [plain_add]; exact (hc i hi).1
    · rw [plain_add, show off + (i * 2 + 1) = off + i * 2 + 1 by omega]; exact (hc i hi).2
theorem cB_len (z : Nat → Int) (n : Nat) : (cB z n).length = n * 1 := by simp [cB]
theorem cI_len (z : Nat → Int) (n : Nat) : (cI z n).length = n * 1 := by simp [cI]
theorem cS_len (z : Nat → ByteArray) (n : Nat) : (cS z n).length = n * 1 := by simp [cS]
theorem cA_len (f : Nat → ByteArray) (q : Nat → Int) (n : Nat) : (cA f q n).length = n * 2 := pair_len _ _ n
theorem cB_one (z : Nat → Int) (n : Nat) : ∀ u ∈ cB z n, u.oneCell' = true := by intro u hu; obtain ⟨i, _, rfl⟩ := List.mem_map.1 hu; rfl
theorem cI_one (z : Nat → Int) (n : Nat) : ∀ u ∈ cI z n, u.oneCell' = true := by intro u hu; obtain ⟨i, _, rfl⟩ := List.mem_map.1 hu; rfl
theorem cS_one (z : Nat → ByteArray) (n : Nat) : ∀ u ∈ cS z n, u.oneCell' = true := by intro u hu; obtain ⟨i, _, rfl⟩ := List.mem_map.1 hu; rfl
theorem cA_one (f : Nat → ByteArray) (q : Nat → Int) (n : Nat) : ∀ u ∈ cA f q n, u.oneCell' = true := by
  intro u hu
  obtain ⟨i, _, h⟩ := List.mem_flatMap.1 hu
  simp at h
  rcases h with rfl | rfl <;> rfl

/-! ### What a list that was laid holds -/
theorem laid_cell {w : World} {g e cp size n room : Nat} {cur : Array Value} {xs M : List Value} (hg : w.heap[g]? = some (.cells cur e (0, 0))) (hs : cur.size = cp * size) (hc : n + room ≤ cp) (ht : cur.toList.take ((n + room) * size) = xs ++ M) (j : Nat) (hj : j < (n + room) * size) (v : Value) (hv : (xs ++ M)[j]? = some v) : w.cell? ⟨g, j, none⟩ = some v := by
  have hle : (n + room) * size ≤ cp * size := Nat.mul_le_mul_right _ hc
  rw [← ht, List.getElem?_take_of_lt hj] at hv
  simpa [World.cell?, hg] using hv
theorem laid_by {w : World} {g cp n : Nat} {cur : Array Value} {z : Nat → Int} (hz : ∀ i, 0 ≤ z i ∧ z i ≤ 255) (hg : w.heap[g]? = some (.cells cur 5 (0, 0))) (hs : cur.size = cp * 1) (hc : n + 600 ≤ cp) (ht : cur.toList.take ((n + 600) * 1) = cB z n ++ mB 600) : By w ⟨some ⟨g, 0, none⟩, n, n + 600⟩ z ∧ ∀ k, k < 600 → markB w g (n + k) k := by
  have hl := cB_len z n
  refine ⟨⟨by simp, hz, .inr ⟨g, 0, rfl, fun i hi => ?_⟩⟩, fun k hk => ?_⟩
  · have hi' : i < n := hi
    rw [Nat.zero_add]
    exact laid_cell hg hs hc ht i (by omega) _ (by rw [List.getElem?_append_left (by omega)]; exact map_at _ n i hi')
  · exact laid_cell hg hs hc ht (n + k) (by omega) _ (by rw [List.getElem?_append_right (by omega), hl, show n + k - n * 1 = k by omega]; exact map_at _ 600 k hk)
theorem laid_is {w : World} {g cp n : Nat} {cur : Array Value} {z : Nat → Int} (hg : w.heap[g]? = some (.cells cur 3 (0, 0))) (hs : cur.size = cp * 1) (hc : n + 40 ≤ cp) (ht : cur.toList.take ((n + 40) * 1) = cI z n ++ mI 40) : Is w ⟨some ⟨g, 0, none⟩, n, n + 40⟩ z ∧ ∀ k, k < 40 → markI w g (n + k) k := by
  have hl := cI_len z n
  refine ⟨⟨by simp, .inr ⟨g, 0, rfl, fun i hi => ?_⟩⟩, fun k hk => ?_⟩
  · have hi' : i < n := hi
    rw [Nat.zero_add]
    exact laid_cell hg hs hc ht i (by omega) _ (by rw [List.getElem?_append_left (by omega)]; exact map_at _ n i hi')
  · exact laid_cell hg hs hc ht (n + k) (by omega) _ (by rw [List.getElem?_append_right (by omega), hl, show n + k - n * 1 = k by omega]; exact map_at _ 40 k hk)
theorem laid_ss {w : World} {g cp n : Nat} {cur : Array Value} {z : Nat → ByteArray} (hg : w.heap[g]? = some (.cells cur 9 (0, 0))) (hs : cur.size = cp * 1) (hc : n + 40 ≤ cp) (ht : cur.toList.take ((n + 40) * 1) = cS z n ++ mS 40) : Ss w ⟨some ⟨g, 0, none⟩, n, n + 40⟩ z ∧ ∀ k, k < 40 → markS w g (n + k) k := by
  have hl := cS_len z n
  refine ⟨⟨by simp, .inr ⟨g, 0, rfl, fun i hi => ?_⟩⟩, fun k hk => ?_⟩
  · have hi' : i < n := hi
    rw [Nat.zero_add]
    exact laid_cell hg hs hc ht i (by omega) _ (by rw [List.getElem?_append_left (by omega)]; exact map_at _ n i hi')
  · exact laid_cell hg hs hc ht (n + k) (by omega) _ (by rw [List.getElem?_append_right (by omega), hl, show n + k - n * 1 = k by omega]; exact map_at _ 40 k hk)
theorem laid_as {w : World} {g cp n : Nat} {cur : Array Value} {f : Nat → ByteArray} {q : Nat → Int} (hg : w.heap[g]? = some (.cells cur 78 (0, 0))) (hs : cur.size = cp * 2) (hc : n + 40 ≤ cp) (ht : cur.toList.take ((n + 40) * 2) = cA f q n ++ mA 40) : As w ⟨some ⟨g, 0, none⟩, n, n + 40⟩ f q ∧ ∀ k, k < 40 → markA w g (n + k) k := by
  have hl := cA_len f q n
  refine ⟨⟨by simp, .inr ⟨g, 0, rfl, fun i hi => ?_⟩⟩, fun k hk => ?_⟩
  · have hi' : i < n := hi
    rw [Nat.zero_add]
    have h2 := pair_at (fun i => .string (f i)) (fun i => .int .i64 (q i)) n i hi'
    exact ⟨laid_cell hg hs hc ht (i * 2) (by omega) _ (by rw [List.getElem?_append_left (by omega)]; exact h2.1), laid_cell hg hs hc ht (i * 2 + 1) (by omega) _ (by rw [List.getElem?_append_left (by omega)]; exact h2.2)⟩
  · have h2 := pair_at (fun i => .string (wordB i)) (fun _ => .int .i64 0) 40 k hk
    exact ⟨laid_cell hg hs hc ht ((n + k) * 2) (by omega) _ (by rw [List.getElem?_append_right (by omega), hl, show (n + k) * 2 - n * 2 = k * 2 by omega]; exact h2.1), laid_cell hg hs hc ht ((n + k) * 2 + 1) (by omega) _ (by rw [List.getElem?_append_right (by omega), hl, show (n + k) * 2 + 1 - n * 2 = k * 2 + 1 by omega]; exact h2.2)⟩
theorem row_cells {w : World} {base t m : Nat} {v : Value} {xs : List Value} (h : w.ownsRow base t 1 v (m + 1) xs) : ∃ g cp cur, v = .slice (some ⟨g, 0, none⟩) (m + 1) cp ∧ m + 1 ≤ cp ∧ w.heap[g]? = some (.cells cur t (0, 0)) ∧ ∀ (j : Nat) (u : Value), xs[j]? = some u → cur[j]? = some u := by
  obtain ⟨hl, k | ⟨g, cp, cur, rfl, _, hh, h1, _, hs, ht⟩⟩ := h
  · exact absurd k.2 (by simp)
  · refine ⟨g, cp, cur, rfl, h1, hh, fun j u hj => ?_⟩
    rw [← ht] at hj
    have hlt : j < (m + 1) * 1 := by
      have := (List.getElem?_eq_some_iff.1 hj).1
      simp at this; omega
    rw [List.getElem?_take_of_lt hlt] at hj
    simpa using hj
end Go.Proofs.YtcoccggimbficaaGreatDoor
namespace Go.Proofs.YtcoccggimbficaaGreatDoor
open Go Go.RowKit Go.Sort
set_option linter.unusedSimpArgs false
set_option linter.unusedVariables false

def zeroPk : Array Value := #[.int .i64 0, .int .i64 0, .bool false, .int .i64 0, .string ⟨#[]⟩, .bool false, .string ⟨#[]⟩, .slice none 0 0, .int .i64 0, .bool false, .bool false, .string ⟨#[]⟩, .bool false, .slice none 0 0, .bool false, .int .i64 0, .bool false, .string ⟨#[]⟩, .slice none 0 0, .int .i64 0, .bool false, .int .i64 0, .slice none 0 0, .slice none 0 0, .slice none 0 0]
/-- A room's fields, all without lists. -/
def nil28 : Array Value := #[.slice none 0 0, .slice none 0 0, .slice none 0 0, .slice none 0 0, .slice none 0 0, .slice none 0 0, .slice none 0 0, .slice none 0 0, .slice none 0 0, .slice none 0 0, .slice none 0 0, .slice none 0 0, .slice none 0 0, .slice none 0 0, .slice none 0 0, .slice none 0 0, .slice none 0 0, .slice none 0 0, .slice none 0 0, .slice none 0 0, .slice none 0 0, .slice none 0 0, .slice none 0 0, .slice none 0 0, .slice none 0 0, .slice none 0 0, .slice none 0 0, .slice none 0 0]

/-- While a packet is laid anew: the room, the packet's own box, what was laid. -/
structure Pst (w0 : World) (rm bx : Array Value) (vb va : Value) (m : Nat) (xsb xsa : List Value) (Ls : List (Nat × Array Value × Nat)) (w : World) : Prop where
  below : Below w0.heap.size w0 w
  rm : w.heap[w0.heap.size]? = some (.cells rm 47 (0, 0))
  bx : w.heap[w0.heap.size + 1]? = some (.cells bx 29 (0, 0))
  zx : w.heap[w0.heap.size + 2]? = some (.cells zeroPk 29 (0, 0))
  ob : w.ownsRow w0.heap.size 22 1 vb m xsb
  oa : w.ownsRow w0.heap.size 3 1 va m xsa
  ls : ∀ x ∈ Ls, w.heap[x.1]? = some (.cells x.2.1 x.2.2 (0, 0))

theorem Pst.set {w0 w : World} {rm bx : Array Value} {vb va : Value} {m : Nat} {xsb xsa : List Value} {Ls : List (Nat × Array Value × Nat)} (h : Pst w0 rm bx vb va m xsb xsa Ls w) (i : Nat) (v : Value) (hT : ∀ x ∈ Ls, x.2.2 ≠ 29) :
    Pst w0 rm (bx.setIfInBounds i v) vb va m xsb xsa Ls (w.setCell ⟨w0.heap.size + 1, i, none⟩ v) where
  below := h.below.setCell (by simp) _
  rm := (Below.heap_setCell w _ v _ (by simp)).trans h.rm
  bx := heap_set h.bx v
  zx := (Below.heap_setCell w _ v _ (by simp)).trans h.zx
  ob := ownsRow_setCell_other h.ob (own_ne h.ob h.bx (by decide)) _
  oa := ownsRow_setCell_other h.oa (own_ne h.oa h.bx (by decide)) _
  ls x hx := by
    refine (Below.heap_setCell w _ v _ ?_).trans (h.ls x hx)
    intro e
    have h1 := h.ls x hx
    have e' : x.1 = w0.heap.size + 1 := e
    rw [e', h.bx] at h1
    simp at h1
    exact hT x hx h1.2.symm

theorem Pst.layB {w0 w w' : World} {rm bx : Array Value} {vb va : Value} {m : Nat} {xsb xsa : List Value} {Ls : List (Nat × Array Value × Nat)} {n g cp : Nat} {xs M : List Value} {cur : Array Value} {vb' va' : Value} (h : Pst w0 rm bx vb va m xsb xsa Ls w)
    (hL : Laid 5 22 1 0 600 M w w' w0.heap.size w0.heap.size m rm vb va xsb xsa n xs g cp cur vb' va') (hT : ∀ x ∈ Ls, x.2.2 ≠ 22 ∧ x.2.2 ≠ 3 ∧ x.2.2 ≠ 47) :
    Pst w0 ((rm.setIfInBounds 0 vb').setIfInBounds 1 va') bx vb' va' (m + 1) (xsb ++ [.slice (some ⟨g, 0, none⟩) (n + 600) cp]) (xsa ++ [.int .i64 n]) (Ls ++ [(g, cur, 5)]) w' := by
  have keep : ∀ (k : Nat) (cs : Array Value) (t : Nat), w.heap[k]? = some (.cells cs t (0, 0)) → t ≠ 22 → t ≠ 3 → t ≠ 47 → w'.heap[k]? = some (.cells cs t (0, 0)) := by
    intro k cs t hk h1 h2 h3
    refine (hL.frm k (block_lt hk) ?_ (own_ne h.ob hk (Ne.symm h1)) (own_ne h.oa hk (Ne.symm h2))).trans hk
    rintro rfl
    rw [h.rm] at hk
    simp at hk
    exact h3 hk.2.symm
  refine ⟨h.below.trans hL.below, hL.room', keep _ _ _ h.bx (by decide) (by decide) (by decide), keep _ _ _ h.zx (by decide) (by decide) (by decide), hL.ob, hL.oa, ?_⟩
  intro x hx
  rcases List.mem_append.1 hx with hx | hx
  · exact keep _ _ _ (h.ls x hx) (hT x hx).1 (hT x hx).2.1 (hT x hx).2.2
  · obtain rfl := List.mem_singleton.1 hx
    exact hL.list

theorem Pst.layN {w0 w w' : World} {rm bx : Array Value} {vb va : Value} {m : Nat} {xsb xsa : List Value} {Ls : List (Nat × Array Value × Nat)} {e t size f room n g cp : Nat} {xs M : List Value} {cur : Array Value} {vb' va' : Value} (h : Pst w0 rm bx vb va m xsb xsa Ls w)
    (hL : Laid e t size f room M w w' w0.heap.size w0.heap.size 0 rm (.slice none 0 0) (.slice none 0 0) [] [] n xs g cp cur vb' va') (hT : ∀ x ∈ Ls, x.2.2 ≠ 47) :
    ∃ gb cb curb ga ca cura, vb' = .slice (some ⟨gb, 0, none⟩) 1 cb ∧ va' = .slice (some ⟨ga, 0, none⟩) 1 ca ∧ 1 ≤ cb ∧ 1 ≤ ca ∧ curb[0]? = some (.slice (some ⟨g, 0, none⟩) (n + room) cp) ∧ cura[0]? = some (.int .i64 n) ∧
      Pst w0 ((rm.setIfInBounds f vb').setIfInBounds (f + 1) va') bx vb va m xsb xsa (Ls ++ [(g, cur, e), (gb, curb, t), (ga, cura, 3)]) w' := by
  have same : ∀ k, k < w.heap.size → k ≠ w0.heap.size → w'.heap[k]? = w.heap[k]? := fun k hk hne => hL.frm k hk hne (by simp [Value.ownBlock]) (by simp [Value.ownBlock])
  have keep : ∀ (k : Nat) (cs : Array Value) (t : Nat), w.heap[k]? = some (.cells cs t (0, 0)) → t ≠ 47 → w'.heap[k]? = some (.cells cs t (0, 0)) := by
    intro k cs t hk h3
    refine (same k (block_lt hk) ?_).trans hk
    rintro rfl
    rw [h.rm] at hk
    simp at hk
    exact h3 hk.2.symm
  have gr : w.grownBy w' (some w0.heap.size) := ⟨hL.below.os, hL.below.tape, hL.below.output, hL.grow, fun k hk hne => same k hk (fun q => hne (by rw [q]))⟩
  obtain ⟨gb, cb, curb, rfl, h1, hb, cb0⟩ := row_cells hL.ob
  obtain ⟨ga, ca, cura, rfl, h2, ha, ca0⟩ := row_cells hL.oa
  refine ⟨gb, cb, curb, ga, ca, cura, rfl, rfl, h1, h2, cb0 0 _ rfl, ca0 0 _ rfl, ⟨h.below.trans hL.below, hL.room', keep _ _ _ h.bx (by decide), keep _ _ _ h.zx (by decide), h.ob.kept gr (.inr (own_ne h.ob h.rm (by decide))), h.oa.kept gr (.inr (own_ne h.oa h.rm (by decide))), ?_⟩⟩
  intro x hx
  rcases List.mem_append.1 hx with hx | hx
  · exact keep _ _ _ (h.ls x hx) (hT x hx)
  · simp only [List.mem_cons, List.not_mem_nil, or_false] at hx
    rcases hx with rfl | rfl | rfl
    · exact hL.list
    · exact hb
    · exact ha
theorem Pst.src {w0 w : World} {rm bx : Array Value} {vb va : Value} {m : Nat} {xsb xsa : List Value} {Ls : List (Nat × Array Value × Nat)} (h : Pst w0 rm bx vb va m xsb xsa Ls w) {s : Sl} {xs : List Value} (hs : Src w0 s xs) : Src w s xs := hs.below h.below
theorem Pst.cell {w0 w : World} {rm bx : Array Value} {vb va : Value} {m : Nat} {xsb xsa : List Value} {Ls : List (Nat × Array Value × Nat)} (h : Pst w0 rm bx vb va m xsb xsa Ls w) (k : Nat) (v : Value) (hk : bx[k]? = some v) : w.cell? ⟨w0.heap.size + 1, k, none⟩ = some v := by simp [World.cell?, h.bx, hk]
theorem Pst.frozen {w0 w : World} {rm bx : Array Value} {vb va : Value} {m : Nat} {xsb xsa : List Value} {Ls : List (Nat × Array Value × Nat)} (h : Pst w0 rm bx vb va m xsb xsa Ls w) (k : Nat) : w.frozen? ⟨w0.heap.size + 1, k, none⟩ = false := by simp [World.frozen?, h.bx]
end Go.Proofs.YtcoccggimbficaaGreatDoor
namespace Go.Proofs.YtcoccggimbficaaGreatDoor
open Go Go.RowKit Go.Sort
set_option linter.unusedSimpArgs false
set_option linter.unusedVariables false

/-- A count of parts in memory. -/
def Cb (w : World) (g : Nat) (x : Int) : Prop := w.heap[g]? = some (.cells #[.int .i64 x] 92)
/-- Nothing has changed but the count. -/
structure Cg (g : Nat) (x : Int) (w w' : World) : Prop where
  os : w'.os = w.os
  tape : w'.tape = w.tape
  output : w'.output = w.output
  size : w.heap.size ≤ w'.heap.size
  keep : ∀ k, k < w.heap.size → k ≠ g → w'.heap[k]? = w.heap[k]?
  blk : Cb w' g x
theorem Cg.trans {g : Nat} {x y : Int} {w w1 w2 : World} (h : Cg g x w w1) (h2 : Cg g y w1 w2) : Cg g y w w2 :=
  ⟨h2.os.trans h.os, h2.tape.trans h.tape, h2.output.trans h.output, Nat.le_trans h.size h2.size, fun k hk hn => (h2.keep k (Nat.lt_of_lt_of_le hk h.size) hn).trans (h.keep k hk hn), h2.blk⟩
theorem Cg.refl {g : Nat} {x : Int} {w : World} (h : Cb w g x) : Cg g x w w := ⟨rfl, rfl, rfl, Nat.le_refl _, fun _ _ _ => rfl, h⟩
theorem Cg.alloc {g : Nat} {x : Int} {w w' : World} (h : Cg g x w w') (o : Obj) : Cg g x w (w'.alloc o) :=
  ⟨h.os, h.tape, h.output, Nat.le_trans h.size (by show w'.heap.size ≤ (w'.heap.push o).size; simp), fun k hk hn => (heap_alloc_old w' o (Nat.lt_of_lt_of_le hk h.size)).trans (h.keep k hk hn), by
    have hg : g < w'.heap.size := by
      rcases Nat.lt_or_ge g w'.heap.size with h1 | h1
      · exact h1
      · have := h.blk; unfold Cb at this; rw [Array.getElem?_eq_none h1] at this; cases this
    exact (heap_alloc_old w' o hg).trans h.blk⟩
theorem Cg.cell {g : Nat} {x : Int} {w w' : World} (h : Cg g x w w') {a : Addr} {v : Value} (ha : w.cell? a = some v) (hn : a.block ≠ g) : w'.cell? a = some v := by
  have hlt := World.block_lt_of_cell? _ _ ha
  unfold World.cell? at ha ⊢
  rw [h.keep a.block hlt hn]
  exact ha
theorem Cb.cell {w : World} {g : Nat} {x : Int} (h : Cb w g x) : w.cell? ⟨g, 0, none⟩ = some (.int .i64 x) := by
  unfold World.cell?
  have : w.heap[g]? = some (.cells #[.int .i64 x] 92) := h
  simp [this]
theorem Cb.frozen {w : World} {g : Nat} {x : Int} (h : Cb w g x) : w.frozen? ⟨g, 0, none⟩ = false := by
  have : w.heap[g]? = some (.cells #[.int .i64 x] 92) := h
  simp [World.frozen?, this]
theorem cg_set {w : World} {g : Nat} {x : Int} (h : Cb w g x) (y : Int) : Cg g y w (w.setCell ⟨g, 0, none⟩ (.int .i64 y)) := by
  refine ⟨rfl, rfl, rfl, ?_, fun k hk hn => heap_setCell_other w _ k _ hn, ?_⟩
  · show w.heap.size ≤ (w.heap.modify g _).size
    simp
  · have := heap_setCell_same w g 0 #[.int .i64 x] 92 (.int .i64 y) h
    exact this

/-- What an addition leaves. -/
def less (x n : Int) : Int := if 0 ≤ x then x - n else x
set_option maxHeartbeats 400000 in
theorem add_any (w : World) (g : Nat) (x n : Int) (h : Cb w g x) (h0 : 0 ≤ n) (h1 : n ≤ 9223372036854775807) (h2 : x ≤ 1000000000) (h3 : -9223372036854775807 ≤ x) : Calls Tryz.prog 133 #[.pointer (some ⟨g, 0, none⟩), .int .i64 n] w fun e w' => e = .returned (.bool (decide (0 ≤ less x n))) ∧ Cg g (less x n) w w' := by
  have hc := h.cell
  have hf := h.frozen
  have HB : Hid (Cb w g x) := h
  clear h
  by_cases hx : 0 ≤ x
  · have hw : wrap64 (x - n) = x - n := by unfold wrap64; omega
    have hs := fun y => Cb.cell (cg_set HB.out y).blk
    rw [show less x n = x - n by simp [less, hx]]
    have HW : Hid (Cg g (x - n) w (w.setCell ⟨g, 0, none⟩ (.int .i64 (x - n)))) := cg_set HB.out _
    have HD : Hid (decide (n ≤ x) = decide (0 ≤ x - n)) := decide_eq_decide.2 (by omega)
    go_enter Tryz.func133, Tryz.ntmps133
    go_wp2
    go_ret
    exact ⟨by rw [← HD.out]; rfl, HW.out⟩
  · rw [show less x n = x by simp [less, hx]]
    have HD : Hid (decide (0 ≤ x) = false) := decide_eq_false hx
    go_enter Tryz.func133, Tryz.ntmps133
    go_wp2
    go_ret
    exact ⟨by rw [HD.out]; rfl, Cg.refl HB.out⟩
/-- What is left behind so many parts. -/
def St (x : Int) (t : Nat) (y : Int) : Prop := (0 ≤ y → y + t = x) ∧ y ≤ 1000000000 ∧ -9223372036854775807 ≤ y
theorem st_less {x : Int} {n : Nat} (h1 : n ≤ 9223372036854775807) (h2 : x ≤ 1000000000) (h3 : -9223372036854775807 ≤ x) : St x n (less x n) := by
  unfold St less
  by_cases h : 0 ≤ x
  · rw [if_pos h]; refine ⟨fun _ => by omega, by omega, by omega⟩
  · rw [if_neg h]; refine ⟨fun h' => absurd h' h, by omega, by omega⟩
theorem St.trans {x y z : Int} {t u : Nat} (h : St x t y) (h2 : St y u z) : St x (t + u) z := by
  refine ⟨fun hz => ?_, h2.2⟩
  have a := h2.1 hz
  have b := h.1 (by omega)
  omega
theorem ok_any (w : World) (g : Nat) (x : Int) (h : Cb w g x) : Calls Tryz.prog 18 #[.pointer (some ⟨g, 0, none⟩)] w fun e w' => e = .returned (.bool (decide (0 ≤ x))) ∧ w' = w := by
  have hc := h.cell
  clear h
  go_enter Tryz.func18, Tryz.ntmps18
  go_wp2
  go_ret
  exact ⟨rfl, rfl⟩
theorem addN_any (w : World) (g : Nat) (x : Int) (n : Nat) (h : Cb w g x) (h1 : n ≤ 9223372036854775807) (h2 : x ≤ 1000000000) (h3 : -9223372036854775807 ≤ x) : Calls Tryz.prog 133 #[.pointer (some ⟨g, 0, none⟩), .int .i64 (n : Int)] w fun e w' => ∃ y b, e = .returned (.bool b) ∧ Cg g y w w' ∧ St x n y := by
  refine (add_any w g x n h (by omega) (by omega) h2 h3).mono ?_
  rintro e w' ⟨rfl, hc⟩
  exact ⟨_, _, rfl, hc, st_less h1 h2 h3⟩

set_option maxHeartbeats 400000 in
theorem text_any (w : World) (g : Nat) (x : Int) (s : ByteArray) (h : Cb w g x) (h1 : s.size ≤ 9223372036854775807) (h2 : x ≤ 1000000000) (h3 : -9223372036854775807 ≤ x) : Calls Tryz.prog 129 #[.pointer (some ⟨g, 0, none⟩), .string s] w fun e w' => ∃ y, e = .returned (.tuple #[]) ∧ Cg g y w w' ∧ St x (1 + s.size) y := by
  have HB : Hid (Cb w g x) := h
  clear h
  go_enter Tryz.func129, Tryz.ntmps129
  go_wp2_with fail
  go_must (go_at_call 133)
  refine (addN_any w g x 1 HB.out (by decide) h2 h3).mono ?_
  rintro e w1 ⟨y, b, rfl, hc1, st1⟩
  have C1 : Hid (Cg g y w w1) := hc1
  have S1 : Hid (St x 1 y) := st1
  clear hc1 st1
  go_wp2_with fail
  go_must (go_at_call 133)
  refine (addN_any w1 g y s.size C1.out.blk h1 S1.out.2.1 S1.out.2.2).mono ?_
  rintro e w2 ⟨z, b2, rfl, hc2, st2⟩
  have C2 : Hid (Cg g z w w2) := C1.out.trans hc2
  have S2 : Hid (St x (1 + s.size) z) := S1.out.trans st2
  clear hc2 st2
  go_wp2
  go_end0
  exact ⟨z, rfl, C2.out, S2.out⟩
set_option maxHeartbeats 400000 in
theorem bytes_any (w : World) (g : Nat) (x : Int) (s : Sl) (h : Cb w g x) (h1 : s.n ≤ 9223372036854775807) (h2 : x ≤ 1000000000) (h3 : -9223372036854775807 ≤ x) : Calls Tryz.prog 130 #[.pointer (some ⟨g, 0, none⟩), .slice s.a s.n s.c] w fun e w' => ∃ y, e = .returned (.tuple #[]) ∧ Cg g y w w' ∧ St x (1 + s.n) y := by
  have HB : Hid (Cb w g x) := h
  clear h
  go_enter Tryz.func130, Tryz.ntmps130
  go_wp2_with fail
  go_must (go_at_call 133)
  refine (addN_any w g x 1 HB.out (by decide) h2 h3).mono ?_
  rintro e w1 ⟨y, b, rfl, hc1, st1⟩
  have C1 : Hid (Cg g y w w1) := hc1
  have S1 : Hid (St x 1 y) := st1
  clear hc1 st1
  go_wp2_with fail
  go_must (go_at_call 133)
  refine (addN_any w1 g y s.n C1.out.blk h1 S1.out.2.1 S1.out.2.2).mono ?_
  rintro e w2 ⟨z, b2, rfl, hc2, st2⟩
  have C2 : Hid (Cg g z w w2) := C1.out.trans hc2
  have S2 : Hid (St x (1 + s.n) z) := S1.out.trans st2
  clear hc2 st2
  go_wp2
  go_end0
  exact ⟨z, rfl, C2.out, S2.out⟩
set_option maxHeartbeats 400000 in
theorem message_any (w : World) (g : Nat) (x : Int) (t : ByteArray) (s : Sl) (q : Int) (r : Bool) (h : Cb w g x) (h0 : t.size ≤ 9223372036854775807) (h1 : s.n ≤ 9223372036854775807) (h2 : x ≤ 1000000000) (h3 : -9223372036854775807 ≤ x) : Calls Tryz.prog 131 #[.pointer (some ⟨g, 0, none⟩), .agg #[.string t, .slice s.a s.n s.c, .int .i64 q, .bool r]] w fun e w' => ∃ y, e = .returned (.tuple #[]) ∧ Cg g y w w' ∧ St x (1 + t.size + (1 + s.n)) y := by
  have C0 : Hid (Cg g x w (w.alloc (.cells #[.string t, .slice s.a s.n s.c, .int .i64 q, .bool r] 24))) := (Cg.refl h).alloc _
  have hn : Hid (g ≠ w.heap.size) := by
    intro e
    have : w.heap[g]? = some (.cells #[.int .i64 x] 92) := h
    rw [e, Array.getElem?_eq_none (Nat.le_refl _)] at this
    cases this
  clear h
  go_enter Tryz.func131, Tryz.ntmps131
  go_wp2_with fail
  go_must (go_at_call 129)
  refine (text_any _ g x t C0.out.blk h0 h2 h3).mono ?_
  rintro e w1 ⟨y, rfl, hc1, st1⟩
  have q1 := hc1.cell (box_cell w _ _ 1 _ rfl) (fun e => hn.out e.symm)
  have C1 : Hid (Cg g y w w1) := C0.out.trans hc1
  have S1 : Hid (St x (1 + t.size) y) := st1
  clear hc1 st1
  go_wp2_with fail
  go_must (go_at_call 130)
  refine (bytes_any w1 g y s C1.out.blk h1 S1.out.2.1 S1.out.2.2).mono ?_
  rintro e w2 ⟨z, rfl, hc2, st2⟩
  have C2 : Hid (Cg g z w w2) := C1.out.trans hc2
  have S2 : Hid (St x (1 + t.size + (1 + s.n)) z) := S1.out.trans st2
  clear hc2 st2
  go_wp2
  go_end0
  exact ⟨z, rfl, C2.out, S2.out⟩
end Go.Proofs.YtcoccggimbficaaGreatDoor
