import Derived.Test.YtenaliaefbkbcaaGreatMg
import Derived.Test.YtenaliaefbkbcaaGreatSrt
import Derived.Shelf.SlSortCmp.WholeK
namespace Go.Proofs.YtenaliaefbkbcaaGreat.Li
open Go Go.RowKit Go.Shelf Go.Sort
set_option linter.unusedSimpArgs false
set_option linter.unusedVariables false
set_option maxRecDepth 100000 in
set_option maxHeartbeats 2000000 in
theorem or_any (a b : Int) (g : Nat) (w : World) (h0 : w.cell? ⟨g, 0, none⟩ = some (.int .i64 a)) (h1 : w.cell? ⟨g, 1, none⟩ = some (.int .i64 b)) : Calls Tryz.prog 82 #[.slice (some ⟨g, 0, none⟩) 2 2] w fun e w' => e = .returned (.int .i64 (if a = 0 then b else a)) ∧ w' = w := by
  by_cases ha : a = 0
  · rw [if_pos ha]
    subst ha
    by_cases hb : b = 0
    · subst hb
      go_enter Tryz.func82, Tryz.ntmps82
      go_wp2
      refine wp_loop_rounds 3 ?_
      rw [rounds_succ]
      go_wp2
      rw [rounds_succ]
      go_wp2
      rw [rounds_succ]
      go_wp2
      go_ret
      exact ⟨rfl, rfl⟩
    · have hb' : (b != 0) = true := by simpa using hb
      go_enter Tryz.func82, Tryz.ntmps82
      go_wp2
      refine wp_loop_rounds 3 ?_
      rw [rounds_succ]
      go_wp2
      rw [rounds_succ]
      go_wp2
      go_ret
      exact ⟨rfl, rfl⟩
  · rw [if_neg ha]
    have ha' : (a != 0) = true := by simpa using ha
    go_enter Tryz.func82, Tryz.ntmps82
    go_wp2
    refine wp_loop_rounds 3 ?_
    rw [rounds_succ]
    go_wp2
    go_ret
    exact ⟨rfl, rfl⟩
theorem size_alloc (w : World) (o : Obj) : (w.alloc o).heap.size = w.heap.size + 1 := by show (w.heap.push o).size = _; simp
theorem heap_alloc_old (w : World) (o : Obj) {k : Nat} (hk : k < w.heap.size) : (w.alloc o).heap[k]? = w.heap[k]? := by
  show (w.heap.push o)[k]? = _
  rw [Array.getElem?_push_lt hk]
  exact (Array.getElem?_eq_getElem hk).symm
def cE (x y : En) : Int := if Lib.compareBytes x.1.data.toList y.1.data.toList = 0 then Lib.compareInt y.2 x.2 else Lib.compareBytes x.1.data.toList y.1.data.toList
set_option maxRecDepth 100000 in
set_option maxHeartbeats 2000000 in
theorem byKey_any (x y : En) (W : World) : Calls Tryz.prog 57 #[.agg #[.string x.1, .int .i64 x.2], .agg #[.string y.1, .int .i64 y.2]] W fun e w' => e = .returned (.int .i64 (cE x y)) ∧ ∃ q os', w' = Go.Sort.grow (W.drewN q) os' := by
  obtain ⟨a, qa⟩ := x
  obtain ⟨b, qb⟩ := y
  have C1 := hidi (fun w => Tryz.strings_Compare a b w)
  have C2 := hidi (fun w => Tryz.cmp_Compare_int qb qa w)
  unfold cE
  simp only
  generalize Lib.compareBytes a.data.toList b.data.toList = r1 at C1 ⊢
  generalize Lib.compareInt qb qa = r2 at C2 ⊢
  obtain ⟨r, hr⟩ : ∃ r, r = (if r1 = 0 then r2 else r1) := ⟨_, rfl⟩
  rw [← hr]
  have HR := hidi hr
  clear hr
  go_enter Tryz.func57, Tryz.ntmps57
  go_wp2_with fail
  obtain ⟨w1, hw1⟩ : ∃ w1, w1 = ((W.alloc (.cells #[.string a, .int .i64 qa] 44)).alloc (.cells #[.string b, .int .i64 qb] 44)) := ⟨_, rfl⟩
  rw [← hw1]
  have x0 : w1.heap[W.heap.size]? = some (.cells #[.string a, .int .i64 qa] 44) := by
    rw [hw1, heap_alloc_old _ _ (by rw [size_alloc]; omega), heap_alloc_new]
  have x1 : w1.heap[W.heap.size + 1]? = some (.cells #[.string b, .int .i64 qb] 44) := by
    have := heap_alloc_new (W.alloc (.cells #[.string a, .int .i64 qa] 44)) (.cells #[.string b, .int .i64 qb] 44)
    rw [size_alloc] at this
    rw [hw1]
    exact this
  have e0 := box_cells x0 0 _ rfl
  have e1 := box_cells x0 1 _ rfl
  have e2 := box_cells x1 0 _ rfl
  have e3 := box_cells x1 1 _ rfl
  have HW := hidi hw1
  have KB := hidi (fun (w2 : World) (hb : Below w1.heap.size w1 w2) => (show w2.cell? ⟨W.heap.size, 0, none⟩ = some (.string a) ∧ w2.cell? ⟨W.heap.size, 1, none⟩ = some (.int .i64 qa) ∧ w2.cell? ⟨W.heap.size + 1, 0, none⟩ = some (.string b) ∧ w2.cell? ⟨W.heap.size + 1, 1, none⟩ = some (.int .i64 qb) from ⟨box_cells (later_at x0 hb) 0 _ rfl, box_cells (later_at x0 hb) 1 _ rfl, box_cells (later_at x1 hb) 0 _ rfl, box_cells (later_at x1 hb) 1 _ rfl⟩))
  clear hw1 x0 x1
  obtain ⟨w2, hw2⟩ : ∃ w2, w2 = w1.drew.alloc (.cells #[.int .i64 r1, .int .i64 r2] 3) := ⟨_, rfl⟩
  have b2 : Below w1.heap.size w1 w2 := by rw [hw2]; exact ((Below.refl w1.heap.size w1).drew).alloc (Nat.le_refl _) _
  have y0 : w2.heap[w1.heap.size]? = some (.cells #[.int .i64 r1, .int .i64 r2] 3) := by rw [hw2]; exact heap_alloc_new w1.drew _
  have OR := hidi (or_any r1 r2 w1.heap.size w2 (box_cells y0 0 _ rfl) (box_cells y0 1 _ rfl))
  rw [← HR.out] at OR
  have HK2 := hidi (KB.out w2 b2)
  have HW2 := hidi hw2
  rw [hw2] at OR HK2
  clear hw2 b2 y0
  go_region_held_law (fun w' => w'.cell? ⟨W.heap.size, 0, none⟩ = some (.string a) ∧ w'.cell? ⟨W.heap.size, 1, none⟩ = some (.int .i64 qa) ∧ w'.cell? ⟨W.heap.size + 1, 0, none⟩ = some (.string b) ∧ w'.cell? ⟨W.heap.size + 1, 1, none⟩ = some (.int .i64 qb)) (first | exact HK2.out | exact ⟨e0, e1, e2, e3⟩ | go_keep) (first
    | (go_at_call 83; refine (C1.out _).mono ?_; rintro e w' ⟨rfl, he⟩; obtain rfl := he.symm; clear he)
    | (go_at_call 84; refine (C2.out _).mono ?_; rintro e w' ⟨rfl, he⟩; obtain rfl := he.symm; clear he)
    | (go_at_call 82; refine OR.out.mono ?_; rintro e w' ⟨rfl, he⟩; obtain rfl := he.symm; clear he))
  go_wp2_with fail
  go_ret
  exact ⟨rfl, 1, #[.cells #[.string a, .int .i64 qa] 44, .cells #[.string b, .int .i64 qb] 44, .cells #[.int .i64 r1, .int .i64 r2] 3], by rw [HW.out, Go.Sort.alloc_eq_grow, Go.Sort.alloc_eq_grow, Go.Sort.alloc_eq_grow, Go.Sort.grow_grow, Go.Sort.grow_grow]; rfl⟩
end Go.Proofs.YtenaliaefbkbcaaGreat.Li
namespace Go.Proofs.YtenaliaefbkbcaaGreat.Li
open Go Go.RowKit Go.Shelf Go.Sort
set_option linter.unusedSimpArgs false
set_option linter.unusedVariables false
/-! ### The order of entries -/
abbrev cb := Lib.compareBytes
theorem cb_cons (x y : UInt8) (a b : List UInt8) : cb (x :: a) (y :: b) = if x = y then cb a b else if x < y then -1 else 1 := by
  show Lib.compareBytes (x :: a) (y :: b) = _
  rw [Lib.compareBytes]
  by_cases h : x = y
  · subst h; simp
  · by_cases h2 : x < y
    · simp [h, h2]
    · have : y < x := by
        rw [UInt8.lt_iff_toNat_lt] at h2 ⊢
        have : x.toNat ≠ y.toNat := fun q => h (UInt8.toNat_inj.1 q)
        omega
      simp [h, h2, this]
theorem cb_self : ∀ a : List UInt8, cb a a = 0
  | [] => by simp [Lib.compareBytes]
  | x :: a => by rw [cb_cons, if_pos rfl, cb_self a]
theorem cb_bd : ∀ a b : List UInt8, -1 ≤ cb a b ∧ cb a b ≤ 1
  | [], [] => by simp [Lib.compareBytes]
  | [], y :: b => by simp [Lib.compareBytes]
  | x :: a, [] => by simp [Lib.compareBytes]
  | x :: a, y :: b => by
    rw [cb_cons]
    split
    · exact cb_bd a b
    · split <;> omega
theorem cb_flip : ∀ a b : List UInt8, cb b a = - cb a b
  | [], [] => by simp [Lib.compareBytes]
  | [], y :: b => by simp [Lib.compareBytes]
  | x :: a, [] => by simp [Lib.compareBytes]
  | x :: a, y :: b => by
    rw [cb_cons, cb_cons]
    by_cases h : x = y
    · rw [if_pos h, if_pos h.symm, cb_flip a b]
    · rw [if_neg h, if_neg (fun q => h q.symm)]
      have hne : x.toNat ≠ y.toNat := fun q => h (UInt8.toNat_inj.1 q)
      by_cases h2 : x < y
      · have : ¬ y < x := by rw [UInt8.lt_iff_toNat_lt] at h2 ⊢; omega
        rw [if_pos h2, if_neg this]
        rfl
      · have : y < x := by rw [UInt8.lt_iff_toNat_lt] at h2 ⊢; omega
        rw [if_neg h2, if_pos this]
theorem cb_zero : ∀ {a b : List UInt8}, cb a b = 0 → a = b
  | [], [], _ => rfl
  | [], y :: b, h => by simp [Lib.compareBytes] at h
  | x :: a, [], h => by simp [Lib.compareBytes] at h
  | x :: a, y :: b, h => by
    rw [cb_cons] at h
    by_cases e : x = y
    · rw [if_pos e] at h
      rw [e, cb_zero h]
    · rw [if_neg e] at h
      split at h <;> omega
theorem cb_trans : ∀ {a b c : List UInt8}, cb a b ≤ 0 → cb b c ≤ 0 → cb a c ≤ 0
  | [], _, [], _, _ => by simp [Lib.compareBytes]
  | [], _, z :: c, _, _ => by simp [Lib.compareBytes]
  | x :: a, [], c, h, _ => by simp [Lib.compareBytes] at h
  | x :: a, y :: b, [], _, h => by simp [Lib.compareBytes] at h
  | x :: a, y :: b, z :: c, h, k => by
    rw [cb_cons] at h k ⊢
    by_cases e1 : x = y
    · subst e1
      by_cases e2 : x = z
      · subst e2
        rw [if_pos rfl] at h k ⊢
        exact cb_trans h k
      · rw [if_neg e2] at k ⊢
        exact k
    · rw [if_neg e1] at h
      have l1 : x < y := by
        by_cases q : x < y
        · exact q
        · rw [if_neg q] at h; omega
      by_cases e2 : y = z
      · subst e2
        rw [if_neg e1, if_pos l1]
        omega
      · rw [if_neg e2] at k
        have l2 : y < z := by
          by_cases q : y < z
          · exact q
          · rw [if_neg q] at k; omega
        have l3 : x < z := by rw [UInt8.lt_iff_toNat_lt] at l1 l2 ⊢; omega
        have e3 : ¬ x = z := fun q => by rw [q, UInt8.lt_iff_toNat_lt] at l3; omega
        rw [if_neg e3, if_pos l3]
        omega
theorem ci_eq (x y : Int) : Lib.compareInt x y = if x < y then -1 else if y < x then 1 else 0 := rfl
/-- below or the same: by key, then the greater quality first. -/
theorem cE_le (x y : En) : cE x y ≤ 0 ↔ cb x.1.data.toList y.1.data.toList < 0 ∨ (x.1 = y.1 ∧ y.2 ≤ x.2) := by
  unfold cE
  have bd := cb_bd x.1.data.toList y.1.data.toList
  have hz : cb x.1.data.toList y.1.data.toList = 0 ↔ x.1 = y.1 := ⟨fun h => ba_list_inj (cb_zero h), fun h => by rw [h]; exact cb_self _⟩
  change (if cb x.1.data.toList y.1.data.toList = 0 then Lib.compareInt y.2 x.2 else cb x.1.data.toList y.1.data.toList) ≤ 0 ↔ _
  generalize cb x.1.data.toList y.1.data.toList = r at *
  by_cases h : r = 0
  · rw [if_pos h, ci_eq]
    have e := hz.1 h
    constructor
    · intro q
      refine .inr ⟨e, ?_⟩
      split at q
      · omega
      · split at q <;> omega
    · rintro (q | ⟨-, q⟩)
      · omega
      · split
        · omega
        · split <;> omega
  · rw [if_neg h]
    constructor
    · intro q
      exact .inl (by omega)
    · rintro (q | q)
      · omega
      · exact absurd (hz.2 q.1) h
theorem cE_flip (x y : En) : cE y x = - cE x y := by
  unfold cE
  have f := cb_flip x.1.data.toList y.1.data.toList
  change (if cb y.1.data.toList x.1.data.toList = 0 then Lib.compareInt x.2 y.2 else cb y.1.data.toList x.1.data.toList) = - (if cb x.1.data.toList y.1.data.toList = 0 then Lib.compareInt y.2 x.2 else cb x.1.data.toList y.1.data.toList)
  rw [f]
  generalize cb x.1.data.toList y.1.data.toList = r at *
  by_cases h : r = 0
  · rw [if_pos (by omega), if_pos h, ci_eq, ci_eq]
    by_cases h1 : x.2 < y.2
    · have : ¬ y.2 < x.2 := by omega
      rw [if_pos h1, if_neg this, if_pos h1]
    · rw [if_neg h1]
      by_cases h2 : y.2 < x.2
      · rw [if_pos h2, if_pos h2]
        rfl
      · rw [if_neg h2, if_neg h2, if_neg h1]
        rfl
  · rw [if_neg (by omega), if_neg h]
theorem cE_trans {x y z : En} (h : cE x y ≤ 0) (k : cE y z ≤ 0) : cE x z ≤ 0 := by
  rw [cE_le] at *
  have bd := cb_bd x.1.data.toList z.1.data.toList
  have hz : cb x.1.data.toList z.1.data.toList = 0 → x.1 = z.1 := fun h => ba_list_inj (cb_zero h)
  rcases h with h | ⟨h1, h2⟩
  · rcases k with k | ⟨k1, k2⟩
    · have t := cb_trans (a := x.1.data.toList) (b := y.1.data.toList) (c := z.1.data.toList) (by omega) (by omega)
      by_cases e : cb x.1.data.toList z.1.data.toList = 0
      · have := hz e
        rw [this] at h
        have f := cb_flip y.1.data.toList z.1.data.toList
        omega
      · exact .inl (by omega)
    · rw [← k1]; exact .inl h
  · rcases k with k | ⟨k1, k2⟩
    · rw [h1]; exact .inl k
    · exact .inr ⟨h1.trans k1, by omega⟩
theorem swoE : Go.Sort.SWO (ltOf cE) := by
  refine ⟨fun x => ?_, fun x y z h k => ?_, fun x y z h k => ?_⟩
  · have := cE_flip x x
    unfold ltOf
    exact decide_eq_false (by omega)
  · unfold ltOf at *
    have h' := of_decide_eq_true h
    have k' := of_decide_eq_true k
    apply decide_eq_true
    have t := cE_trans (x := x) (y := y) (z := z) (by omega) (by omega)
    by_cases e : cE x z = 0
    · have t2 := cE_trans (x := z) (y := x) (z := y) (by rw [cE_flip]; omega) (by omega)
      have := cE_flip y z
      omega
    · omega
  · unfold ltOf at *
    have h' := of_decide_eq_false h
    have k' := of_decide_eq_false k
    apply decide_eq_false
    have f1 := cE_flip x y
    have f2 := cE_flip y z
    have f3 := cE_flip x z
    have t := cE_trans (x := z) (y := y) (z := x) (by omega) (by omega)
    omega
end Go.Proofs.YtenaliaefbkbcaaGreat.Li
namespace Go.Proofs.YtenaliaefbkbcaaGreat.Li
open Go Go.RowKit Go.Shelf Go.Sort
set_option linter.unusedSimpArgs false
set_option linter.unusedVariables false
def acs (x : En) : List Value := [.string x.1, .int .i64 x.2]
def arow (L : List En) : List Value := L.flatMap acs
theorem arow_len (L : List En) : (arow L).length = L.length * 2 := by
  induction L with
  | nil => rfl
  | cons x r ih =>
    show (acs x ++ arow r).length = _
    rw [List.length_append, ih]
    simp [acs]
    omega
theorem arow_get : ∀ (L : List En) (i : Nat) (x : En), L[i]? = some x → (arow L)[2 * i]? = some (.string x.1) ∧ (arow L)[2 * i + 1]? = some (.int .i64 x.2)
  | [], i, x, h => by simp at h
  | y :: r, 0, x, h => by
    simp at h
    subst h
    exact ⟨rfl, rfl⟩
  | y :: r, i + 1, x, h => by
    have := arow_get r i x (by simpa using h)
    exact this
def encA (x : En) : List Value := [.string x.1, .int .i64 x.2]
theorem encA_eq {x : En} : encA x = acs x := rfl
theorem cmpLaysA (blk off size : Nat) (w : World) : CmpLays Tryz.prog 57 #[] encA 2 cE blk off size w :=
  fun m os dk hs x y => byKey_any x y _
theorem flatA (d : List En) : (flatK encA 2 d.toArray).toList = arow d := by
  apply List.ext_getElem
  · simp [arow_len]
  · intro t h1 h2
    have ht : t < d.length * 2 := by simpa using h1
    have hi : t / 2 < d.length := by omega
    have e0 : d.toArray[t / 2]! = d[t / 2] := by simp [hi]
    have g := get_flatK encA 2 d.toArray t (by simpa using ht)
    rw [getElem!_pos _ t (by simpa using ht), e0, encA_eq] at g
    have a := arow_get d (t / 2) d[t / 2] (List.getElem?_eq_getElem hi)
    rw [Array.getElem_toList, g]
    rw [List.getElem?_eq_some_iff] at a
    rcases Nat.mod_two_eq_zero_or_one t with q | q
    · obtain ⟨_, a1⟩ := a.1
      have e : 2 * (t / 2) = t := by omega
      simp only [e] at a1
      rw [a1, q]
      rfl
    · have a2 := a.2
      rw [List.getElem?_eq_some_iff] at a2
      obtain ⟨_, a1⟩ := a2
      have e : 2 * (t / 2) + 1 = t := by omega
      simp only [e] at a1
      rw [a1, q]
      rfl
theorem flatA' (d : Array En) : (flatK encA 2 d).toList = arow d.toList := by
  have := flatA d.toList
  simpa using this
/-- The row of asks, in another order. -/
theorem sortWK_old (w : World) (g m k : Nat) (ys : Array En) (os : Array Obj) (hk : k < w.heap.size) (hg : k ≠ g) : (sortWorldK encA 2 w g 0 m ys os).heap[k]? = w.heap[k]? := by
  have hs : (putRowK encA 2 (Go.Sort.ahead w m) g 0 ys).heap.size = w.heap.size := by simp [putRowK, Go.Sort.putRow, Go.Sort.mapBlock, Go.Sort.ahead]
  unfold sortWorldK
  rw [Go.Sort.heap_grow_old _ _ (by rw [hs]; exact hk)]
  show (w.heap.modify g _)[k]? = _
  rw [Array.getElem?_modify, if_neg (Ne.symm hg)]
theorem own_sortedA {w : World} {B g cap m : Nat} {xs : List En} {ys : Array En} {os : Array Obj} (ho : w.ownsRow B 44 2 (.slice (some ⟨g, 0, none⟩) xs.length cap) xs.length (arow xs)) (hl : ys.size = xs.length) :
    (sortWorldK encA 2 w g 0 m ys os).ownsRow B 44 2 (.slice (some ⟨g, 0, none⟩) xs.length cap) xs.length (arow ys.toList) ∧ Ch (fun j => j = g) w (sortWorldK encA 2 w g 0 m ys os) := by
  rcases ho with ⟨h1, ⟨h2, -⟩ | ⟨g', cap', cur, hv', hb, hg, hc1, hc2, hc3, hc4⟩⟩
  · cases h2
  simp only [Value.slice.injEq, Option.some.injEq, Addr.mk.injEq] at hv'
  obtain ⟨⟨rfl, -, -⟩, -, rfl⟩ := hv'
  have hgl : g < w.heap.size := (Array.getElem?_eq_some_iff.1 hg).1
  have hs : (putRowK encA 2 (Go.Sort.ahead w m) g 0 ys).heap.size = w.heap.size := by simp [putRowK, Go.Sort.putRow, Go.Sort.mapBlock, Go.Sort.ahead]
  refine ⟨⟨by rw [arow_len]; simp [hl], .inr ⟨g, cap, Go.Sort.putCells id 0 (flatK encA 2 ys) cur, rfl, hb, ?_, hc1, hc2, ?_, ?_⟩⟩, ⟨rfl, rfl, rfl, ?_, ?_⟩⟩
  · unfold sortWorldK
    rw [Go.Sort.heap_grow_old _ _ (by rw [hs]; exact hgl)]
    show (w.heap.modify g _)[g]? = _
    rw [Array.getElem?_modify, if_pos rfl, hg]
    rfl
  · simpa [Go.Sort.putCells] using hc3
  · rw [← flatA' ys]
    apply List.ext_getElem
    · simp [Go.Sort.putCells, hl]
      omega
    · intro i q1 q2
      have hi : i < ys.size * 2 := by simpa using q2
      have : i < (flatK encA 2 ys).size := by simpa using hi
      simp [Go.Sort.putCells, this]
      rw [if_pos hi, getElem!_pos _ i this]
  · unfold sortWorldK
    rw [Go.Sort.size_grow, hs]
    omega
  · intro k hk hn
    exact sortWK_old w g m k ys os hk hn
theorem holds_rowA {w : World} {B g cap : Nat} {xs : List En} (ho : w.ownsRow B 44 2 (.slice (some ⟨g, 0, none⟩) xs.length cap) xs.length (arow xs)) : HoldsK encA 2 w g 0 xs.toArray ∧ g < w.heap.size := by
  rcases ho with ⟨h1, ⟨h2, -⟩ | ⟨g', cap', cur, hv', hb, hg, hc1, hc2, hc3, hc4⟩⟩
  · cases h2
  simp only [Value.slice.injEq, Option.some.injEq, Addr.mk.injEq] at hv'
  obtain ⟨⟨rfl, -, -⟩, -, rfl⟩ := hv'
  refine ⟨fun j hj => ?_, (Array.getElem?_eq_some_iff.1 hg).1⟩
  have hj' : j < xs.length * 2 := by simpa using hj
  have e1 : (flatK encA 2 xs.toArray)[j]! = (arow xs)[j]'(by rw [arow_len]; exact hj') := by
    rw [getElem!_pos _ j hj, ← Array.getElem_toList]
    simp only [flatA xs]
  have e3 : cur[j]? = some ((arow xs)[j]'(by rw [arow_len]; exact hj')) := by
    have := congrArg (fun l => l[j]?) hc4
    simp only [List.getElem?_take, if_pos hj', List.getElem?_eq_getElem (show j < (arow xs).length by rw [arow_len]; exact hj')] at this
    simpa using this
  rw [e1, Nat.zero_add]
  refine ⟨?_, ?_⟩
  · simp [World.cell?, hg, e3]
  · simp [World.frozen?, hg]
set_option maxRecDepth 100000 in
set_option maxHeartbeats 2000000 in
theorem insA_none (p : Option Addr) (cap : Nat) (fv : Value) (w : World) : Calls Tryz.prog 99 #[.slice p 0 cap, .int .i64 0, .int .i64 0, fv] w fun e w' => e = .returned (.tuple #[]) ∧ w' = w := by
  go_enter Tryz.func99, Tryz.ntmps99
  go_wp2
  refine wp_loop_rounds 1 ?_
  rw [rounds_succ]
  go_wp2
  go_end0
  exact ⟨rfl, rfl⟩
set_option maxRecDepth 100000 in
set_option maxHeartbeats 2000000 in
theorem pdqA_none (p : Option Addr) (cap : Nat) (lim : Int) (fv : Value) (w : World) : Calls Tryz.prog 80 #[.slice p 0 cap, .int .i64 0, .int .i64 0, .int .i64 lim, fv] w fun e w' => e = .returned (.tuple #[]) ∧ w' = w := by
  go_enter Tryz.func80, Tryz.ntmps80
  go_wp2
  refine wp_loop_rounds 1 ?_
  rw [rounds_succ]
  go_wp2_with (go_at_call 99; refine (insA_none _ _ _ _).mono ?_; rintro e w' ⟨rfl, rfl⟩)
  (try simp only [Exit.inBlock, Exit.then]); refine bodyPost_ret (results_none rfl _ _ _) rfl ?_
  exact ⟨rfl, rfl⟩
theorem lenA_none (w : World) : Calls Tryz.prog 81 #[.int .u64 0] w fun e w' => e = .returned (.int .i64 (Lib.bitLen 0 : Nat)) ∧ w' = w :=
  Any.bits_Len (SlLaysF0.n15.bits (P := Tryz.prog) (ρ := Tryz.sfe_ren) { Tryz.sfe with }) 0 w (by omega) (by omega)
set_option maxHeartbeats 2000000 in
theorem sortA_none (p : Option Addr) (cap : Nat) (fv : Value) (w : World) : Calls Tryz.prog 56 #[.slice p 0 cap, fv] w fun e w' => e = .returned (.tuple #[]) ∧ w' = w := by
  have hl := lenA_none w
  go_enter Tryz.func56, Tryz.ntmps56
  go_wp2_with (first | (go_at_call 81; refine hl.mono ?_; rintro e w' ⟨rfl, rfl⟩) | (go_at_call 80; refine (pdqA_none _ _ _ _ _).mono ?_; rintro e w' ⟨rfl, rfl⟩))
  go_end0
  exact ⟨rfl, rfl⟩
/-- Asks in their filters' order. -/
def ByF (L : List En) : Prop := L.Pairwise fun a b => cE a b ≤ 0
theorem sortA_any (xs : List En) (v : Value) (w : World) (B : Nat) (ho : w.ownsRow B 44 2 v xs.length (arow xs)) (hl : xs.length ≤ 1000000) :
    Calls Tryz.prog 56 #[v, .func (.func 57) #[] #[]] w fun e w' => e = .returned (.tuple #[]) ∧ ∃ ys, ys.Perm xs ∧ ByF ys ∧ w'.ownsRow B 44 2 v ys.length (arow ys) ∧ Ch (fun j => v.ownBlock = some j) w w' := by
  by_cases h0 : xs = []
  · subst h0
    obtain ⟨a, c, rfl⟩ : ∃ a c, v = .slice a 0 c := by
      rcases ho with ⟨-, ⟨h2, -⟩ | ⟨g', cap', cur, hv', -⟩⟩
      · exact ⟨_, _, h2⟩
      · exact ⟨_, _, hv'⟩
    refine (sortA_none a c (.func (.func 57) #[] #[]) w).mono ?_
    rintro e w' ⟨rfl, rfl⟩
    exact ⟨rfl, [], List.Perm.refl _, List.Pairwise.nil, ho, Ch.refl _ _⟩
  · have hp : 0 < xs.length := List.length_pos_iff.2 h0
    obtain ⟨g, c, rfl⟩ : ∃ g c, v = .slice (some ⟨g, 0, none⟩) xs.length c := by
      rcases ho with ⟨-, ⟨-, h2⟩ | ⟨g', cap', cur, hv', -⟩⟩
      · omega
      · exact ⟨_, _, hv'⟩
    obtain ⟨hH, hg⟩ := holds_rowA ho
    have h := AnyQ.slices_SortFunc (P := Tryz.prog) (ρ := Tryz.sfe_ren) Tryz.sfe 2 Tryz.isAgg44 Tryz.sizeOf44 encA (fun _ => rfl) (fun x v hv => by simp [encA] at hv; rcases hv with rfl | rfl <;> rfl) cE swoE 57 #[] g 0 c xs.toArray w (enters_of Tryz.func57 (by kernel_rfl) rfl) (cmpLaysA g 0 _ w) hH hg (by simp; omega)
    have e1 : xs.toArray.size = xs.length := by simp
    rw [e1] at h
    refine Calls.mono (f := 56) h ?_
    rintro e w' ⟨rfl, d', n, os, ⟨hsz, -, hperm⟩, hS, rfl⟩
    have e2 : d'.extract 0 xs.length = d' := by rw [← e1, ← hsz]; exact Array.extract_size
    have e3 : xs.toArray.extract 0 xs.length = xs.toArray := by rw [← e1]; exact Array.extract_size
    rw [e2, e3] at hperm
    have hperm' : d'.toList.Perm xs := by simpa using hperm
    have hd : d'.size = xs.length := by rw [hsz, e1]
    have hSd : ByF d'.toList := by
      unfold ByF
      rw [List.pairwise_iff_getElem]
      intro i j hi hj hij
      have hi' : i < d'.size := by simpa using hi
      have hj' : j < d'.size := by simpa using hj
      have := hS i j (Nat.zero_le _) hij (by omega)
      rw [getElem!_pos d' j hj', getElem!_pos d' i hi'] at this
      unfold ltOf at this
      have h1 := of_decide_eq_false this
      have := cE_flip d'[i] d'[j]
      simp only [Array.getElem_toList]
      omega
    have := own_sortedA (m := n) (os := os) (ys := d') ho hd
    refine ⟨rfl, d'.toList, hperm', hSd, ?_, this.2.mono (fun j _ e => by rw [e]; rfl)⟩
    rw [show d'.toList.length = xs.length by simpa using hd]
    exact this.1
theorem arow_prow (L : List En) : arow L = prow (L.map epv) := by
  unfold arow prow
  rw [List.flatMap_map]
  rfl
end Go.Proofs.YtenaliaefbkbcaaGreat.Li
