import Derived.Test.YtbjhblnagmpnfaaDoorNn
import Derived.Test.YtbjhblnagmpnfaaDoorShelf
import Derived.Shelf.SlSortCmp.Whole1
import Derived.Shelf.SlGeneric
import Derived.Ground.SlsfProg
import Derived.Shelf.SlSortCmp.Insertion
import Derived.Test.YtbjhblnagmpnfaaDoorProg
namespace Go.Proofs.YtbjhblnagmpnfaaDoor
open Go Go.RowKit Go.Shelf Go.Maps Go.Sort
set_option linter.unusedSimpArgs false
set_option linter.unusedVariables false
set_option maxRecDepth 100000 in
set_option maxHeartbeats 1000000 in
theorem byTurn_any {a b : Nat} {x y : Int} {w : World} (ha : w.cell? ⟨a, 0, none⟩ = some (.int .i64 x)) (hb : w.cell? ⟨b, 0, none⟩ = some (.int .i64 y)) :
    Calls Tryd.prog 54 #[.pointer (some ⟨a, 0, none⟩), .pointer (some ⟨b, 0, none⟩)] w fun e w' => e = .returned (.int .i64 (Lib.compareInt x y)) ∧ ∃ m, w' = w.drewN m := by
  have hc := Tryd.cmp_Compare_int x y
  go_enter Tryd.func54, Tryd.ntmps54
  go_wp2_with fail
  go_quiet ((go_at_call 66; exact Calls.quiet_of_same (hc _)))
  go_wp2_with fail
  go_ret
  exact ⟨rfl, _, rfl⟩
end Go.Proofs.YtbjhblnagmpnfaaDoor
/-
  DERIVED: THE SHELF's CONTRACTS AT THIS DUMP, IN PLAIN WORDS (tools/lay-plain.mjs out of 'TrydSort.lean', which tools/lay-shelf.mjs wrote): THE SAME DECLARATIONS UNDER THE SAME NAMES: 'import', 'namespace', 'open', 'def', 'theorem' AND NOTHING ELSE: no command of the shelf's: FOR A HAND-IN. Each laying: the table of numbers ('.._ren') and one theorem, a field a fact of the dump's own or the kernel's comparison; each contract: ONE APPLICATION.
-/
namespace Go.Proofs
open Go.Shelf
def Tryd.sfl_ren : Go.Shelf.Ren := ⟨fun | 6 => 64 | 15 => 73 | 14 => 72 | 28 => 83 | 29 => 84 | 20 => 75 | 21 => 76 | 22 => 77 | 23 => 78 | 24 => 79 | 25 => 80 | 26 => 81 | 27 => 82 | 46 => 85 | 47 => 86 | 48 => 87 | 49 => 88 | 50 => 89 | 57 => 90 | n => n, fun | 22 => 104 | 24 => 78 | 25 => 109 | 3 => 3 | 39 => 117 | 0 => 0 | 53 => 138 | 55 => 101 | 4 => 4 | 46 => 132 | 45 => 131 | 50 => 33 | 5 => 5 | 9 => 9 | 66 => 139 | 70 => 143 | 76 => 145 | 77 => 146 | n => n, fun | n => n⟩
theorem Tryd.sfl : Go.Proofs.SlLaysF.n6 Tryd.prog Tryd.sfl_ren := {
  mixed := by kernel_rfl
  f6 := ⟨Tryd.f64.name, by decide, Tryd.func64.trans (congrArg some (by kernel_rfl))⟩
  f14 := ⟨Tryd.f72.name, by decide, Tryd.func72.trans (congrArg some (by kernel_rfl))⟩
  f15 := Tryd.func73.trans (congrArg some (by kernel_rfl))
  f20 := ⟨Tryd.f75.name, by decide, Tryd.func75.trans (congrArg some (by kernel_rfl))⟩
  f21 := ⟨Tryd.f76.name, by decide, Tryd.func76.trans (congrArg some (by kernel_rfl))⟩
  f22 := ⟨Tryd.f77.name, by decide, Tryd.func77.trans (congrArg some (by kernel_rfl))⟩
  f23 := ⟨Tryd.f78.name, by decide, Tryd.func78.trans (congrArg some (by kernel_rfl))⟩
  f24 := ⟨Tryd.f79.name, by decide, Tryd.func79.trans (congrArg some (by kernel_rfl))⟩
  f25 := ⟨Tryd.f80.name, by decide, Tryd.func80.trans (congrArg some (by kernel_rfl))⟩
  f26 := ⟨Tryd.f81.name, by decide, Tryd.func81.trans (congrArg some (by kernel_rfl))⟩
  f27 := ⟨Tryd.f82.name, by decide, Tryd.func82.trans (congrArg some (by kernel_rfl))⟩
  f28 := Tryd.func83.trans (congrArg some (by kernel_rfl))
  f29 := Tryd.func84.trans (congrArg some (by kernel_rfl))
  f46 := ⟨Tryd.f85.name, by decide, Tryd.func85.trans (congrArg some (by kernel_rfl))⟩
  f47 := Tryd.func86.trans (congrArg some (by kernel_rfl))
  f48 := Tryd.func87.trans (congrArg some (by kernel_rfl))
  f49 := ⟨Tryd.f88.name, by decide, Tryd.func88.trans (congrArg some (by kernel_rfl))⟩
  f50 := ⟨Tryd.f89.name, by decide, Tryd.func89.trans (congrArg some (by kernel_rfl))⟩
  f57 := ⟨Tryd.f90.name, by decide, Tryd.func90.trans (congrArg some (by kernel_rfl))⟩
  t0 := Tryd.underlying0
  a0 := Tryd.isAgg0
  z0 := Tryd.sizeOf0
  v0 := Tryd.zeroValue0
  t3 := Tryd.underlying3
  a3 := Tryd.isAgg3
  z3 := Tryd.sizeOf3
  v3 := Tryd.zeroValue3
  t4 := Tryd.underlying4
  a4 := Tryd.isAgg4
  z4 := Tryd.sizeOf4
  v4 := Tryd.zeroValue4
  t5 := Tryd.underlying5
  a5 := Tryd.isAgg5
  z5 := Tryd.sizeOf5
  v5 := Tryd.zeroValue5
  t9 := Tryd.underlying9
  a9 := Tryd.isAgg9
  z9 := Tryd.sizeOf9
  v9 := Tryd.zeroValue9
  t22 := Tryd.underlying104
  a22 := Tryd.isAgg104
  z22 := Tryd.sizeOf104
  v22 := Tryd.zeroValue104
  a24 := Tryd.isAgg78
  z24 := Tryd.sizeOf78
  t25 := Tryd.underlying109
  a25 := Tryd.isAgg109
  z25 := Tryd.sizeOf109
  v25 := Tryd.zeroValue109
  t39 := Tryd.underlying117
  a39 := Tryd.isAgg117
  z39 := Tryd.sizeOf117
  v39 := Tryd.zeroValue117
  t45 := Tryd.underlying131
  a45 := Tryd.isAgg131
  z45 := Tryd.sizeOf131
  v45 := Tryd.zeroValue131
  t46 := Tryd.underlying132
  a46 := Tryd.isAgg132
  z46 := Tryd.sizeOf132
  v46 := Tryd.zeroValue132
  t50 := Tryd.underlying33
  a50 := Tryd.isAgg33
  z50 := Tryd.sizeOf33
  v50 := Tryd.zeroValue33
  t53 := Tryd.underlying138
  a53 := Tryd.isAgg138
  z53 := Tryd.sizeOf138
  v53 := Tryd.zeroValue138
  t55 := Tryd.underlying101
  a55 := Tryd.isAgg101
  z55 := Tryd.sizeOf101
  v55 := Tryd.zeroValue101
  t66 := Tryd.underlying139
  a66 := Tryd.isAgg139
  z66 := Tryd.sizeOf139
  v66 := Tryd.zeroValue139
  t70 := Tryd.underlying143
  a70 := Tryd.isAgg143
  z70 := Tryd.sizeOf143
  v70 := Tryd.zeroValue143
  t76 := Tryd.underlying145
  a76 := Tryd.isAgg145
  z76 := Tryd.sizeOf145
  v76 := Tryd.zeroValue145
  t77 := Tryd.underlying146
  a77 := Tryd.isAgg146
  z77 := Tryd.sizeOf146
  v77 := Tryd.zeroValue146 }
end Go.Proofs
namespace Go.Proofs.YtbjhblnagmpnfaaDoor
open Go Go.RowKit Go.Shelf Go.Maps Go.Sort
set_option linter.unusedSimpArgs false
set_option linter.unusedVariables false
/-! ### SortFunc of places by their turn -/
/-- A place, if it is one of these; else the first of them. -/
def clipL (L : List Nat) (b : Nat) : Nat := if b ∈ L then b else L.headD 0
theorem clipL_mem {L : List Nat} (h : L ≠ []) (b : Nat) : clipL L b ∈ L := by
  unfold clipL
  split
  · assumption
  · cases L with
    | nil => exact absurd rfl h
    | cons x t => simp
theorem clipL_eq {L : List Nat} {b : Nat} (h : b ∈ L) : clipL L b = b := if_pos h
def encP (L : List Nat) (b : Nat) : Value := pt (clipL L b)
def cfP (L : List Nat) (tn : Nat → Int) (a b : Nat) : Int := Lib.compareInt (tn (clipL L a)) (tn (clipL L b))
theorem ltP (L : List Nat) (tn : Nat → Int) (a b : Nat) : ltOf (cfP L tn) a b = decide (tn (clipL L a) < tn (clipL L b)) := by
  unfold ltOf cfP Lib.compareInt
  by_cases h : tn (clipL L a) < tn (clipL L b)
  · simp [h]
  · by_cases h2 : tn (clipL L a) > tn (clipL L b) <;> simp [h, h2]
theorem swoP (L : List Nat) (tn : Nat → Int) : Go.Sort.SWO (ltOf (cfP L tn)) := by
  refine ⟨fun x => by rw [ltP]; simp, fun x y z h k => ?_, fun x y z h k => ?_⟩
  · rw [ltP] at *
    simp only [decide_eq_true_eq] at *
    omega
  · rw [ltP] at *
    simp only [decide_eq_false_iff_not] at *
    omega
theorem map_clipP {L : List Nat} {ys : List Nat} (h : ∀ x ∈ ys, x ∈ L) : ys.map (encP L) = ys.map pt := by
  apply List.map_congr_left
  intro x hx
  unfold encP
  rw [clipL_eq (h x hx)]
theorem cells_takeP (L : List Nat) (ys : List Nat) (cur : Array Value) (h : ys.length ≤ cur.size) : (Go.Sort.putCells (encP L) 0 ys.toArray cur).toList.take ys.length = ys.map (encP L) := by
  apply List.ext_getElem
  · simp [Go.Sort.putCells]
    omega
  · intro i h1 h2
    have hi : i < ys.length := by simpa using h2
    simp [Go.Sort.putCells, hi]
theorem sortW_old (L : List Nat) (w : World) (g m k : Nat) (ys : Array Nat) (os : Array Obj) (hk : k < w.heap.size) (hg : k ≠ g) : (sortWorld (encP L) w g 0 m ys os).heap[k]? = w.heap[k]? := by
  have hs : (Go.Sort.putRow (encP L) (Go.Sort.ahead w m) g 0 ys).heap.size = w.heap.size := by simp [Go.Sort.putRow, Go.Sort.mapBlock, Go.Sort.ahead]
  unfold sortWorld
  rw [Go.Sort.heap_grow_old _ _ (by rw [hs]; exact hk)]
  show (w.heap.modify g _)[k]? = _
  rw [Array.getElem?_modify, if_neg (Ne.symm hg)]
theorem own_sortedP {L : List Nat} {w : World} {B g cap m : Nat} {xs ys : List Nat} {os : Array Obj} (ho : w.ownsRow B 78 1 (.slice (some ⟨g, 0, none⟩) xs.length cap) xs.length (xs.map pt)) (hl : ys.length = xs.length) (hy : ∀ x ∈ ys, x ∈ L) :
    (sortWorld (encP L) w g 0 m ys.toArray os).ownsRow B 78 1 (.slice (some ⟨g, 0, none⟩) xs.length cap) xs.length (ys.map pt) ∧ Below B w (sortWorld (encP L) w g 0 m ys.toArray os) := by
  rcases ho with ⟨h1, ⟨h2, -⟩ | ⟨g', cap', cur, hv', hb, hg, hc1, hc2, hc3, hc4⟩⟩
  · cases h2
  simp only [Value.slice.injEq, Option.some.injEq, Addr.mk.injEq] at hv'
  obtain ⟨⟨rfl, -, -⟩, -, rfl⟩ := hv'
  have hgl : g < w.heap.size := (Array.getElem?_eq_some_iff.1 hg).1
  have hs : (Go.Sort.putRow (encP L) (Go.Sort.ahead w m) g 0 ys.toArray).heap.size = w.heap.size := by simp [Go.Sort.putRow, Go.Sort.mapBlock, Go.Sort.ahead]
  refine ⟨⟨by simp [hl], .inr ⟨g, cap, Go.Sort.putCells (encP L) 0 ys.toArray cur, rfl, hb, ?_, hc1, hc2, ?_, ?_⟩⟩, ⟨rfl, rfl, rfl, ?_, ?_⟩⟩
  · unfold sortWorld
    rw [Go.Sort.heap_grow_old _ _ (by rw [hs]; exact hgl)]
    show (w.heap.modify g _)[g]? = _
    rw [Array.getElem?_modify, if_pos rfl, hg]
    rfl
  · simpa [Go.Sort.putCells] using hc3
  · have := cells_takeP L ys cur (by rw [hl]; omega)
    rw [map_clipP hy, hl] at this
    simpa using this
  · unfold sortWorld
    rw [Go.Sort.size_grow, hs]
    omega
  · intro k hk
    exact sortW_old L w g m k ys.toArray os (by omega) (by omega)
theorem holds_rowP {L : List Nat} {w : World} {B g cap : Nat} {xs : List Nat} (ho : w.ownsRow B 78 1 (.slice (some ⟨g, 0, none⟩) xs.length cap) xs.length (xs.map pt)) (hx : ∀ x ∈ xs, x ∈ L) : Go.Sort.Holds (encP L) w g 0 xs.toArray ∧ g < w.heap.size := by
  rcases ho with ⟨h1, ⟨h2, -⟩ | ⟨g', cap', cur, hv', hb, hg, hc1, hc2, hc3, hc4⟩⟩
  · cases h2
  simp only [Value.slice.injEq, Option.some.injEq, Addr.mk.injEq] at hv'
  obtain ⟨⟨rfl, -, -⟩, -, rfl⟩ := hv'
  refine ⟨fun j hj => ?_, (Array.getElem?_eq_some_iff.1 hg).1⟩
  have hj' : j < xs.length := by simpa using hj
  have e1 : xs.toArray[j]! = xs[j] := by simp [hj']
  have e2 : encP L xs[j] = pt xs[j] := by unfold encP; rw [clipL_eq (hx _ (List.getElem_mem hj'))]
  have e3 : cur[j]? = some (pt xs[j]) := by
    have := congrArg (fun l => l[j]?) hc4
    simp only [Nat.mul_one, List.getElem?_take, if_pos hj', List.getElem?_map, List.getElem?_eq_getElem hj', Option.map_some] at this
    simpa using this
  rw [e1, e2, Nat.zero_add]
  refine ⟨?_, ?_⟩
  · simp [World.cell?, hg, e3]
  · simp [World.frozen?, hg]
set_option maxRecDepth 100000 in
set_option maxHeartbeats 2000000 in
theorem ins_none (p : Option Addr) (cap : Nat) (fv : Value) (w : World) : Calls Tryd.prog 75 #[.slice p 0 cap, .int .i64 0, .int .i64 0, fv] w fun e w' => e = .returned (.tuple #[]) ∧ w' = w := by
  go_enter Tryd.func75, Tryd.ntmps75
  go_wp2
  refine wp_loop_rounds 1 ?_
  rw [rounds_succ]
  go_wp2
  go_end0
  exact ⟨rfl, rfl⟩
set_option maxRecDepth 100000 in
set_option maxHeartbeats 2000000 in
theorem pdq_none (p : Option Addr) (cap : Nat) (lim : Int) (fv : Value) (w : World) : Calls Tryd.prog 72 #[.slice p 0 cap, .int .i64 0, .int .i64 0, .int .i64 lim, fv] w fun e w' => e = .returned (.tuple #[]) ∧ w' = w := by
  go_enter Tryd.func72, Tryd.ntmps72
  go_wp2
  refine wp_loop_rounds 1 ?_
  rw [rounds_succ]
  go_wp2_with (go_at_call 75; refine (ins_none _ _ _ _).mono ?_; rintro e w' ⟨rfl, rfl⟩)
  (try simp only [Exit.inBlock, Exit.then]); refine bodyPost_ret (results_none rfl _ _ _) rfl ?_
  exact ⟨rfl, rfl⟩
theorem len_none (w : World) : Calls Tryd.prog 73 #[.int .u64 0] w fun e w' => e = .returned (.int .i64 (Lib.bitLen 0 : Nat)) ∧ w' = w :=
  Any.bits_Len (SlLaysF0.n15.bits (P := Tryd.prog) (ρ := Tryd.sfl_ren) { Tryd.sfl with }) 0 w (by omega) (by omega)
set_option maxHeartbeats 2000000 in
theorem sort_none (p : Option Addr) (cap : Nat) (fv : Value) (w : World) : Calls Tryd.prog 64 #[.slice p 0 cap, fv] w fun e w' => e = .returned (.tuple #[]) ∧ w' = w := by
  have hl := len_none w
  go_enter Tryd.func64, Tryd.ntmps64
  go_wp2_with (first | (go_at_call 73; refine hl.mono ?_; rintro e w' ⟨rfl, rfl⟩) | (go_at_call 72; refine (pdq_none _ _ _ _ _).mono ?_; rintro e w' ⟨rfl, rfl⟩))
  go_end0
  exact ⟨rfl, rfl⟩
/-- Places in the order of their turns. -/
def ByT (tn : Nat → Int) (ys : List Nat) : Prop := ys.Pairwise (fun a b => tn a ≤ tn b)
theorem sortfunc_any (xs : List Nat) (tn : Nat → Int) (v : Value) (w : World) (B : Nat) (ho : w.ownsRow B 78 1 v xs.length (xs.map pt)) (hl : xs.length ≤ 1000000) (hc : ∀ x ∈ xs, x < w.heap.size ∧ w.cell? ⟨x, 0, none⟩ = some (.int .i64 (tn x)) ∧ v.ownBlock ≠ some x) :
    Calls Tryd.prog 64 #[v, .func (.func 54) #[] #[]] w fun e w' => e = .returned (.tuple #[]) ∧ ∃ ys, ys.Perm xs ∧ ByT tn ys ∧ w'.ownsRow B 78 1 v xs.length (ys.map pt) ∧ Below B w w' := by
  by_cases h0 : xs = []
  · subst h0
    obtain ⟨a, c, rfl⟩ : ∃ a c, v = .slice a 0 c := by
      rcases ho with ⟨-, ⟨h2, -⟩ | ⟨g', cap', cur, hv', -⟩⟩
      · exact ⟨_, _, h2⟩
      · exact ⟨_, _, hv'⟩
    refine (sort_none a c (.func (.func 54) #[] #[]) w).mono ?_
    rintro e w' ⟨rfl, rfl⟩
    exact ⟨rfl, [], List.Perm.refl _, List.Pairwise.nil, ho, Below.refl _ _⟩
  · have hp : 0 < xs.length := List.length_pos_iff.2 h0
    obtain ⟨g, c, rfl⟩ : ∃ g c, v = .slice (some ⟨g, 0, none⟩) xs.length c := by
      rcases ho with ⟨-, ⟨-, h2⟩ | ⟨g', cap', cur, hv', -⟩⟩
      · omega
      · exact ⟨_, _, hv'⟩
    obtain ⟨hH, hg⟩ := holds_rowP (L := xs) ho (fun x hx => hx)
    have hcell : ∀ (m : Nat) (os : Array Obj) (dk : Array Nat) (x : Nat), (sortWorld (encP xs) w g 0 m dk os).cell? ⟨clipL xs x, 0, none⟩ = some (.int .i64 (tn (clipL xs x))) := fun m os dk x => by
      obtain ⟨c1, c2, c3⟩ := hc _ (clipL_mem h0 x)
      rw [← c2]
      refine cell_heap ?_
      exact sortW_old xs w g m _ dk os c1 (fun e => c3 (by rw [← e]; rfl))
    have h := Any.slices_SortFunc (P := Tryd.prog) (ρ := Tryd.sfl_ren) Tryd.sfl (encP xs) (fun _ => rfl) (cfP xs tn) (swoP xs tn) 54 #[] g 0 c xs.toArray w (enters_of Tryd.func54 (by kernel_rfl) rfl)
      (fun m os dk hs x y => (byTurn_any (hcell m os dk x) (hcell m os dk y)).mono fun e w' ⟨he, q, hq⟩ => ⟨he, q, #[], by rw [hq, Go.Sort.grow_empty]⟩)
      hH hg (by simp; omega)
    have e1 : xs.toArray.size = xs.length := by simp
    rw [e1] at h
    refine Calls.mono (f := 64) h ?_
    rintro e w' ⟨rfl, d', n, os, ⟨hsz, -, hperm⟩, hS, rfl⟩
    have e2 : d'.extract 0 xs.length = d' := by rw [← e1, ← hsz]; exact Array.extract_size
    have e3 : xs.toArray.extract 0 xs.length = xs.toArray := by rw [← e1]; exact Array.extract_size
    rw [e2, e3] at hperm
    have hperm' : d'.toList.Perm xs := by simpa using hperm
    have hle : ∀ x ∈ d'.toList, x ∈ xs := fun x hx' => hperm'.mem_iff.1 hx'
    have hd : d'.size = xs.length := by rw [hsz, e1]
    have hSd : ByT tn d'.toList := by
      unfold ByT
      rw [List.pairwise_iff_getElem]
      intro i j hi hj hij
      have hi' : i < d'.size := by simpa using hi
      have hj' : j < d'.size := by simpa using hj
      have := hS i j (Nat.zero_le _) hij (by omega)
      rw [getElem!_pos d' j hj', getElem!_pos d' i hi', ltP] at this
      have h1 := of_decide_eq_false this
      rw [clipL_eq (hle _ (by simp)), clipL_eq (hle _ (by simp))] at h1
      simp only [Array.getElem_toList]
      omega
    have := own_sortedP (L := xs) (m := n) (os := os) (ys := d'.toList) ho (by simp [hd]) hle
    exact ⟨rfl, d'.toList, hperm', hSd, by simpa using this.1, by simpa using this.2⟩
end Go.Proofs.YtbjhblnagmpnfaaDoor
