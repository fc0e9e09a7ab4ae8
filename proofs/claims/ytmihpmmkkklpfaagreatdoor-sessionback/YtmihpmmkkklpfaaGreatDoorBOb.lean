import Derived.Test.YtmihpmmkkklpfaaGreatDoorBNn
import Derived.Test.YtmihpmmkkklpfaaGreatDoorShelf
import Derived.Shelf.SlSortCmp.Whole1
import Derived.Shelf.SlGeneric
import Derived.Ground.SlsfProg
import Derived.Shelf.SlSortCmp.Insertion
import Derived.Test.YtmihpmmkkklpfaaGreatDoorProg
namespace Go.Proofs.YtmihpmmkkklpfaaGreatDoor
open Go Go.RowKit Go.Shelf Go.Maps Go.Sort
set_option linter.unusedSimpArgs false
set_option linter.unusedVariables false
set_option maxRecDepth 100000 in
set_option maxHeartbeats 1000000 in
theorem byTurn_any {a b : Nat} {x y : Int} {w : World} (ha : w.cell? ⟨a, 0, none⟩ = some (.int .i64 x)) (hb : w.cell? ⟨b, 0, none⟩ = some (.int .i64 y)) :
    Calls Tryz.prog 72 #[.pointer (some ⟨a, 0, none⟩), .pointer (some ⟨b, 0, none⟩)] w fun e w' => e = .returned (.int .i64 (Lib.compareInt x y)) ∧ ∃ m, w' = w.drewN m := by
  have hc := Tryz.cmp_Compare_int x y
  go_enter Tryz.func72, Tryz.ntmps72
  go_wp2_with fail
  go_quiet ((go_at_call 99; exact Calls.quiet_of_same (hc _)))
  go_wp2_with fail
  go_ret
  exact ⟨rfl, _, rfl⟩
end Go.Proofs.YtmihpmmkkklpfaaGreatDoor
/-
  DERIVED: THE SHELF's CONTRACTS AT THIS DUMP, IN PLAIN WORDS (tools/lay-plain.mjs out of 'TrydSort.lean', which tools/lay-shelf.mjs wrote): THE SAME DECLARATIONS UNDER THE SAME NAMES: 'import', 'namespace', 'open', 'def', 'theorem' AND NOTHING ELSE: no command of the shelf's: FOR A HAND-IN. Each laying: the table of numbers ('.._ren') and one theorem, a field a fact of the dump's own or the kernel's comparison; each contract: ONE APPLICATION.
-/
namespace Go.Proofs
open Go.Shelf
def Tryz.sfl_ren : Go.Shelf.Ren := ⟨fun | 6 => 97 | 15 => 85 | 14 => 129 | 28 => 114 | 29 => 115 | 20 => 142 | 21 => 143 | 22 => 144 | 23 => 145 | 24 => 146 | 25 => 147 | 26 => 148 | 27 => 149 | 46 => 156 | 47 => 135 | 48 => 136 | 49 => 157 | 50 => 158 | 57 => 161 | n => n, fun | 22 => 139 | 24 => 114 | 25 => 144 | 3 => 3 | 39 => 156 | 0 => 0 | 53 => 183 | 55 => 171 | 4 => 4 | 46 => 177 | 45 => 176 | 50 => 125 | 5 => 5 | 9 => 9 | 66 => 197 | 70 => 201 | 76 => 216 | 77 => 217 | n => n, fun | n => n⟩
theorem Tryz.sfl : Go.Proofs.SlLaysF.n6 Tryz.prog Tryz.sfl_ren := {
  mixed := by kernel_rfl
  f6 := ⟨Tryz.f97.name, by decide, Tryz.func97.trans (congrArg some (by kernel_rfl))⟩
  f14 := ⟨Tryz.f129.name, by decide, Tryz.func129.trans (congrArg some (by kernel_rfl))⟩
  f15 := Tryz.func85.trans (congrArg some (by kernel_rfl))
  f20 := ⟨Tryz.f142.name, by decide, Tryz.func142.trans (congrArg some (by kernel_rfl))⟩
  f21 := ⟨Tryz.f143.name, by decide, Tryz.func143.trans (congrArg some (by kernel_rfl))⟩
  f22 := ⟨Tryz.f144.name, by decide, Tryz.func144.trans (congrArg some (by kernel_rfl))⟩
  f23 := ⟨Tryz.f145.name, by decide, Tryz.func145.trans (congrArg some (by kernel_rfl))⟩
  f24 := ⟨Tryz.f146.name, by decide, Tryz.func146.trans (congrArg some (by kernel_rfl))⟩
  f25 := ⟨Tryz.f147.name, by decide, Tryz.func147.trans (congrArg some (by kernel_rfl))⟩
  f26 := ⟨Tryz.f148.name, by decide, Tryz.func148.trans (congrArg some (by kernel_rfl))⟩
  f27 := ⟨Tryz.f149.name, by decide, Tryz.func149.trans (congrArg some (by kernel_rfl))⟩
  f28 := Tryz.func114.trans (congrArg some (by kernel_rfl))
  f29 := Tryz.func115.trans (congrArg some (by kernel_rfl))
  f46 := ⟨Tryz.f156.name, by decide, Tryz.func156.trans (congrArg some (by kernel_rfl))⟩
  f47 := Tryz.func135.trans (congrArg some (by kernel_rfl))
  f48 := Tryz.func136.trans (congrArg some (by kernel_rfl))
  f49 := ⟨Tryz.f157.name, by decide, Tryz.func157.trans (congrArg some (by kernel_rfl))⟩
  f50 := ⟨Tryz.f158.name, by decide, Tryz.func158.trans (congrArg some (by kernel_rfl))⟩
  f57 := ⟨Tryz.f161.name, by decide, Tryz.func161.trans (congrArg some (by kernel_rfl))⟩
  t0 := Tryz.underlying0
  a0 := Tryz.isAgg0
  z0 := Tryz.sizeOf0
  v0 := Tryz.zeroValue0
  t3 := Tryz.underlying3
  a3 := Tryz.isAgg3
  z3 := Tryz.sizeOf3
  v3 := Tryz.zeroValue3
  t4 := Tryz.underlying4
  a4 := Tryz.isAgg4
  z4 := Tryz.sizeOf4
  v4 := Tryz.zeroValue4
  t5 := Tryz.underlying5
  a5 := Tryz.isAgg5
  z5 := Tryz.sizeOf5
  v5 := Tryz.zeroValue5
  t9 := Tryz.underlying9
  a9 := Tryz.isAgg9
  z9 := Tryz.sizeOf9
  v9 := Tryz.zeroValue9
  t22 := Tryz.underlying139
  a22 := Tryz.isAgg139
  z22 := Tryz.sizeOf139
  v22 := Tryz.zeroValue139
  a24 := Tryz.isAgg114
  z24 := Tryz.sizeOf114
  t25 := Tryz.underlying144
  a25 := Tryz.isAgg144
  z25 := Tryz.sizeOf144
  v25 := Tryz.zeroValue144
  t39 := Tryz.underlying156
  a39 := Tryz.isAgg156
  z39 := Tryz.sizeOf156
  v39 := Tryz.zeroValue156
  t45 := Tryz.underlying176
  a45 := Tryz.isAgg176
  z45 := Tryz.sizeOf176
  v45 := Tryz.zeroValue176
  t46 := Tryz.underlying177
  a46 := Tryz.isAgg177
  z46 := Tryz.sizeOf177
  v46 := Tryz.zeroValue177
  t50 := Tryz.underlying125
  a50 := Tryz.isAgg125
  z50 := Tryz.sizeOf125
  v50 := Tryz.zeroValue125
  t53 := Tryz.underlying183
  a53 := Tryz.isAgg183
  z53 := Tryz.sizeOf183
  v53 := Tryz.zeroValue183
  t55 := Tryz.underlying171
  a55 := Tryz.isAgg171
  z55 := Tryz.sizeOf171
  v55 := Tryz.zeroValue171
  t66 := Tryz.underlying197
  a66 := Tryz.isAgg197
  z66 := Tryz.sizeOf197
  v66 := Tryz.zeroValue197
  t70 := Tryz.underlying201
  a70 := Tryz.isAgg201
  z70 := Tryz.sizeOf201
  v70 := Tryz.zeroValue201
  t76 := Tryz.underlying216
  a76 := Tryz.isAgg216
  z76 := Tryz.sizeOf216
  v76 := Tryz.zeroValue216
  t77 := Tryz.underlying217
  a77 := Tryz.isAgg217
  z77 := Tryz.sizeOf217
  v77 := Tryz.zeroValue217 }
end Go.Proofs
namespace Go.Proofs.YtmihpmmkkklpfaaGreatDoor
open Go Go.RowKit Go.Shelf Go.Maps Go.Sort
set_option linter.unusedSimpArgs false
set_option linter.unusedVariables false
/-! ### SortFunc of places by their turn -/
/-- A place, if it is one of these; else the first of them. -/
def clipL (L : List Nat) (b : Nat) : Nat := if b ∈ L then b else L.headD 0
theorem clipL_mem {L : List Nat} (h : L ≠ []) (b : Nat) : clipL L b ∈ L := by
  unfold clipL
  split
  · assumption
  · cases L with
    | nil => exact absurd rfl h
    | cons x t => simp
theorem clipL_eq {L : List Nat} {b : Nat} (h : b ∈ L) : clipL L b = b := if_pos h
def encP (L : List Nat) (b : Nat) : Value := pt (clipL L b)
def cfP (L : List Nat) (tn : Nat → Int) (a b : Nat) : Int := Lib.compareInt (tn (clipL L a)) (tn (clipL L b))
theorem ltP (L : List Nat) (tn : Nat → Int) (a b : Nat) : ltOf (cfP L tn) a b = decide (tn (clipL L a) < tn (clipL L b)) := by
  unfold ltOf cfP Lib.compareInt
  by_cases h : tn (clipL L a) < tn (clipL L b)
  · simp [h]
  · by_cases h2 : tn (clipL L a) > tn (clipL L b) <;> simp [h, h2]
theorem swoP (L : List Nat) (tn : Nat → Int) : Go.Sort.SWO (ltOf (cfP L tn)) := by
  refine ⟨fun x => by rw [ltP]; simp, fun x y z h k => ?_, fun x y z h k => ?_⟩
  · rw [ltP] at *
    simp only [decide_eq_true_eq] at *
    omega
  · rw [ltP] at *
    simp only [decide_eq_false_iff_not] at *
    omega
theorem map_clipP {L : List Nat} {ys : List Nat} (h : ∀ x ∈ ys, x ∈ L) : ys.map (encP L) = ys.map pt := by
  apply List.map_congr_left
  intro x hx
  unfold encP
  rw [clipL_eq (h x hx)]
theorem cells_takeP (L : List Nat) (ys : List Nat) (cur : Array Value) (h : ys.length ≤ cur.size) : (Go.Sort.putCells (encP L) 0 ys.toArray cur).toList.take ys.length = ys.map (encP L) := by
  apply List.ext_getElem
  · simp [Go.Sort.putCells]
    omega
  · intro i h1 h2
    have hi : i < ys.length := by simpa using h2
    simp [Go.Sort.putCells, hi]
theorem sortW_old (L : List Nat) (w : World) (g m k : Nat) (ys : Array Nat) (os : Array Obj) (hk : k < w.heap.size) (hg : k ≠ g) : (sortWorld (encP L) w g 0 m ys os).heap[k]? = w.heap[k]? := by
  have hs : (Go.Sort.putRow (encP L) (Go.Sort.ahead w m) g 0 ys).heap.size = w.heap.size := by simp [Go.Sort.putRow, Go.Sort.mapBlock, Go.Sort.ahead]
  unfold sortWorld
  rw [Go.Sort.heap_grow_old _ _ (by rw [hs]; exact hk)]
  show (w.heap.modify g _)[k]? = _
  rw [Array.getElem?_modify, if_neg (Ne.symm hg)]
theorem own_sortedP {L : List Nat} {w : World} {B g cap m : Nat} {xs ys : List Nat} {os : Array Obj} (ho : w.ownsRow B 114 1 (.slice (some ⟨g, 0, none⟩) xs.length cap) xs.length (xs.map pt)) (hl : ys.length = xs.length) (hy : ∀ x ∈ ys, x ∈ L) :
    (sortWorld (encP L) w g 0 m ys.toArray os).ownsRow B 114 1 (.slice (some ⟨g, 0, none⟩) xs.length cap) xs.length (ys.map pt) ∧ Below B w (sortWorld (encP L) w g 0 m ys.toArray os) := by
  rcases ho with ⟨h1, ⟨h2, -⟩ | ⟨g', cap', cur, hv', hb, hg, hc1, hc2, hc3, hc4⟩⟩
  · cases h2
  simp only [Value.slice.injEq, Option.some.injEq, Addr.mk.injEq] at hv'
  obtain ⟨⟨rfl, -, -⟩, -, rfl⟩ := hv'
  have hgl : g < w.heap.size := (Array.getElem?_eq_some_iff.1 hg).1
  have hs : (Go.Sort.putRow (encP L) (Go.Sort.ahead w m) g 0 ys.toArray).heap.size = w.heap.size := by simp [Go.Sort.putRow, Go.Sort.mapBlock, Go.Sort.ahead]
  refine ⟨⟨by simp [hl], .inr ⟨g, cap, Go.Sort.putCells (encP L) 0 ys.toArray cur, rfl, hb, ?_, hc1, hc2, ?_, ?_⟩⟩, ⟨rfl, rfl, rfl, ?_, ?_⟩⟩
  · unfold sortWorld
    rw [Go.Sort.heap_grow_old _ _ (by rw [hs]; exact hgl)]
    show (w.heap.modify g _)[g]? = _
    rw [Array.getElem?_modify, if_pos rfl, hg]
    rfl
  · simpa [Go.Sort.putCells] using hc3
  · have := cells_takeP L ys cur (by rw [hl]; omega)
    rw [map_clipP hy, hl] at this
    simpa using this
  · unfold sortWorld
    rw [Go.Sort.size_grow, hs]
    omega
  · intro k hk
    exact sortW_old L w g m k ys.toArray os (by omega) (by omega)
theorem holds_rowP {L : List Nat} {w : World} {B g cap : Nat} {xs : List Nat} (ho : w.ownsRow B 114 1 (.slice (some ⟨g, 0, none⟩) xs.length cap) xs.length (xs.map pt)) (hx : ∀ x ∈ xs, x ∈ L) : Go.Sort.Holds (encP L) w g 0 xs.toArray ∧ g < w.heap.size := by
  rcases ho with ⟨h1, ⟨h2, -⟩ | ⟨g', cap', cur, hv', hb, hg, hc1, hc2, hc3, hc4⟩⟩
  · cases h2
  simp only [Value.slice.injEq, Option.some.injEq, Addr.mk.injEq] at hv'
  obtain ⟨⟨rfl, -, -⟩, -, rfl⟩ := hv'
  refine ⟨fun j hj => ?_, (Array.getElem?_eq_some_iff.1 hg).1⟩
  have hj' : j < xs.length := by simpa using hj
  have e1 : xs.toArray[j]! = xs[j] := by simp [hj']
  have e2 : encP L xs[j] = pt xs[j] := by unfold encP; rw [clipL_eq (hx _ (List.getElem_mem hj'))]
  have e3 : cur[j]? = some (pt xs[j]) := by
    have := congrArg (fun l => l[j]?) hc4
    simp only [Nat.mul_one, List.getElem?_take, if_pos hj', List.getElem?_map, List.getElem?_eq_getElem hj', Option.map_some] at this
    simpa using this
  rw [e1, e2, Nat.zero_add]
  refine ⟨?_, ?_⟩
  · simp [World.cell?, hg, e3]
  · simp [World.frozen?, hg]
set_option maxRecDepth 100000 in
set_option maxHeartbeats 2000000 in
theorem ins_none (p : Option Addr) (cap : Nat) (fv : Value) (w : World) : Calls Tryz.prog 142 #[.slice p 0 cap, .int .i64 0, .int .i64 0, fv] w fun e w' => e = .returned (.tuple #[]) ∧ w' = w := by
  go_enter Tryz.func142, Tryz.ntmps142
  go_wp2
  refine wp_loop_rounds 1 ?_
  rw [rounds_succ]
  go_wp2
  go_end0
  exact ⟨rfl, rfl⟩
set_option maxRecDepth 100000 in
set_option maxHeartbeats 2000000 in
theorem pdq_none (p : Option Addr) (cap : Nat) (lim : Int) (fv : Value) (w : World) : Calls Tryz.prog 129 #[.slice p 0 cap, .int .i64 0, .int .i64 0, .int .i64 lim, fv] w fun e w' => e = .returned (.tuple #[]) ∧ w' = w := by
  go_enter Tryz.func129, Tryz.ntmps129
  go_wp2
  refine wp_loop_rounds 1 ?_
  rw [rounds_succ]
  go_wp2_with (go_at_call 142; refine (ins_none _ _ _ _).mono ?_; rintro e w' ⟨rfl, rfl⟩)
  (try simp only [Exit.inBlock, Exit.then]); refine bodyPost_ret (results_none rfl _ _ _) rfl ?_
  exact ⟨rfl, rfl⟩
theorem len_none (w : World) : Calls Tryz.prog 85 #[.int .u64 0] w fun e w' => e = .returned (.int .i64 (Lib.bitLen 0 : Nat)) ∧ w' = w :=
  Any.bits_Len (SlLaysF0.n15.bits (P := Tryz.prog) (ρ := Tryz.sfl_ren) { Tryz.sfl with }) 0 w (by omega) (by omega)
set_option maxHeartbeats 2000000 in
theorem sort_none (p : Option Addr) (cap : Nat) (fv : Value) (w : World) : Calls Tryz.prog 97 #[.slice p 0 cap, fv] w fun e w' => e = .returned (.tuple #[]) ∧ w' = w := by
  have hl := len_none w
  go_enter Tryz.func97, Tryz.ntmps97
  go_wp2_with (first | (go_at_call 85; refine hl.mono ?_; rintro e w' ⟨rfl, rfl⟩) | (go_at_call 129; refine (pdq_none _ _ _ _ _).mono ?_; rintro e w' ⟨rfl, rfl⟩))
  go_end0
  exact ⟨rfl, rfl⟩
/-- Places in the order of their turns. -/
def ByT (tn : Nat → Int) (ys : List Nat) : Prop := ys.Pairwise (fun a b => tn a ≤ tn b)
theorem sortfunc_any (xs : List Nat) (tn : Nat → Int) (v : Value) (w : World) (B : Nat) (ho : w.ownsRow B 114 1 v xs.length (xs.map pt)) (hl : xs.length ≤ 1000000) (hc : ∀ x ∈ xs, x < w.heap.size ∧ w.cell? ⟨x, 0, none⟩ = some (.int .i64 (tn x)) ∧ v.ownBlock ≠ some x) :
    Calls Tryz.prog 97 #[v, .func (.func 72) #[] #[]] w fun e w' => e = .returned (.tuple #[]) ∧ ∃ ys, ys.Perm xs ∧ ByT tn ys ∧ w'.ownsRow B 114 1 v xs.length (ys.map pt) ∧ Below B w w' := by
  by_cases h0 : xs = []
  · subst h0
    obtain ⟨a, c, rfl⟩ : ∃ a c, v = .slice a 0 c := by
      rcases ho with ⟨-, ⟨h2, -⟩ | ⟨g', cap', cur, hv', -⟩⟩
      · exact ⟨_, _, h2⟩
      · exact ⟨_, _, hv'⟩
    refine (sort_none a c (.func (.func 72) #[] #[]) w).mono ?_
    rintro e w' ⟨rfl, rfl⟩
    exact ⟨rfl, [], List.Perm.refl _, List.Pairwise.nil, ho, Below.refl _ _⟩
  · have hp : 0 < xs.length := List.length_pos_iff.2 h0
    obtain ⟨g, c, rfl⟩ : ∃ g c, v = .slice (some ⟨g, 0, none⟩) xs.length c := by
      rcases ho with ⟨-, ⟨-, h2⟩ | ⟨g', cap', cur, hv', -⟩⟩
      · omega
      · exact ⟨_, _, hv'⟩
    obtain ⟨hH, hg⟩ := holds_rowP (L := xs) ho (fun x hx => hx)
    have hcell : ∀ (m : Nat) (os : Array Obj) (dk : Array Nat) (x : Nat), (sortWorld (encP xs) w g 0 m dk os).cell? ⟨clipL xs x, 0, none⟩ = some (.int .i64 (tn (clipL xs x))) := fun m os dk x => by
      obtain ⟨c1, c2, c3⟩ := hc _ (clipL_mem h0 x)
      rw [← c2]
      refine cell_heap ?_
      exact sortW_old xs w g m _ dk os c1 (fun e => c3 (by rw [← e]; rfl))
    have h := Any.slices_SortFunc (P := Tryz.prog) (ρ := Tryz.sfl_ren) Tryz.sfl (encP xs) (fun _ => rfl) (cfP xs tn) (swoP xs tn) 72 #[] g 0 c xs.toArray w (enters_of Tryz.func72 (by kernel_rfl) rfl)
      (fun m os dk hs x y => (byTurn_any (hcell m os dk x) (hcell m os dk y)).mono fun e w' ⟨he, q, hq⟩ => ⟨he, q, #[], by rw [hq, Go.Sort.grow_empty]⟩)
      hH hg (by simp; omega)
    have e1 : xs.toArray.size = xs.length := by simp
    rw [e1] at h
    refine Calls.mono (f := 97) h ?_
    rintro e w' ⟨rfl, d', n, os, ⟨hsz, -, hperm⟩, hS, rfl⟩
    have e2 : d'.extract 0 xs.length = d' := by rw [← e1, ← hsz]; exact Array.extract_size
    have e3 : xs.toArray.extract 0 xs.length = xs.toArray := by rw [← e1]; exact Array.extract_size
    rw [e2, e3] at hperm
    have hperm' : d'.toList.Perm xs := by simpa using hperm
    have hle : ∀ x ∈ d'.toList, x ∈ xs := fun x hx' => hperm'.mem_iff.1 hx'
    have hd : d'.size = xs.length := by rw [hsz, e1]
    have hSd : ByT tn d'.toList := by
      unfold ByT
      rw [List.pairwise_iff_getElem]
      intro i j hi hj hij
      have hi' : i < d'.size := by simpa using hi
      have hj' : j < d'.size := by simpa using hj
      have := hS i j (Nat.zero_le _) hij (by omega)
      rw [getElem!_pos d' j hj', getElem!_pos d' i hi', ltP] at this
      have h1 := of_decide_eq_false this
      rw [clipL_eq (hle _ (by simp)), clipL_eq (hle _ (by simp))] at h1
      simp only [Array.getElem_toList]
      omega
    have := own_sortedP (L := xs) (m := n) (os := os) (ys := d'.toList) ho (by simp [hd]) hle
    exact ⟨rfl, d'.toList, hperm', hSd, by simpa using this.1, by simpa using this.2⟩
end Go.Proofs.YtmihpmmkkklpfaaGreatDoor
namespace Go.Proofs.YtmihpmmkkklpfaaGreatDoor
open Go Go.RowKit Go.Shelf Go.Maps Go.Sort
set_option linter.unusedSimpArgs false
set_option linter.unusedVariables false
theorem hidi {p : Prop} (h : p) : Hid p := h
/-! ### SortedFunc of a map's values -/
set_option maxHeartbeats 1000000 in
theorem sortedf_any (Bm nn : Nat) (mv : Value) (f : Int → Option Nat) (tn : Nat → Int) (w : World) (hM : MI w mv nn (fun k => (f k).map pt)) (hBm : Bm < w.heap.size) (hm : w.cell? ⟨Bm, 0, none⟩ = some mv) (hl : nn ≤ 1000000)
    (hlen : ∀ ps, AllOf f ps → ps.length ≤ 1000000)
    (hc : ∀ k b, okI k → f k = some b → b < w.heap.size ∧ w.cell? ⟨b, 0, none⟩ = some (.int .i64 (tn b))) :
    Calls Tryz.prog 70 #[.func (.func 98) #[] #[.pointer (some ⟨Bm, 0, none⟩)], .func (.func 72) #[] #[]] w fun e w' => ∃ v ps ys, e = .returned v ∧ AllOf f ps ∧ ys.Perm (ps.map (·.2)) ∧ ByT tn ys ∧ w'.ownsRow w.heap.size 114 1 v ys.length (ys.map pt) ∧ Below w.heap.size w w' := by
  have A := hidi (collect_any Bm nn mv f w hM hBm hm hl)
  have HC := hidi hc
  have HL := hidi hlen
  clear hM hBm hm hl hc hlen
  go_enter Tryz.func70, Tryz.ntmps70
  go_wp2_with fail
  go_must (go_at_call 96)
  refine A.out.mono ?_
  clear A
  rintro e w1 ⟨v, ps, rfl, hA, ho, hb⟩
  have S := hidi (sortfunc_any (ps.map (·.2)) tn v w1 w.heap.size (by simpa [ptrs, Function.comp_def] using ho) (by simpa using HL.out ps hA) (fun x hx => by
    obtain ⟨p, hp, rfl⟩ := List.mem_map.1 hx
    obtain ⟨q1, q2⟩ := hA.2.1 p hp
    obtain ⟨c1, c2⟩ := HC.out p.1 p.2 q1 q2
    refine ⟨by have := hb.size; omega, (hb.cell (p := ⟨p.2, 0, none⟩) c1).trans c2, fun e => ?_⟩
    rcases ho.2 with ⟨rfl, _⟩ | ⟨g, cap, cur, rfl, h1, _⟩
    · simp [Value.ownBlock] at e
    · simp [Value.ownBlock] at e
      omega))
  have HA := hidi hA
  have HB := hidi hb
  clear hA ho hb HC
  go_wp2_with fail
  go_must (go_at_call 97)
  refine S.out.mono ?_
  clear S
  rintro e w2 ⟨rfl, ys, hp, ht, ho, hb⟩
  have Z := hidi (And.intro hp (And.intro ht (And.intro ho hb)))
  clear hp ht ho hb
  go_wp2_with fail
  go_ret
  obtain ⟨hp, ht, ho, hb⟩ := Z.out
  have hl : ys.length = (ps.map (·.2)).length := hp.length_eq
  exact ⟨v, ps, ys, rfl, HA.out, hp, ht, by rw [hl]; exact ho, HB.out.trans hb⟩
/-! ### A window's flights -/
/-- A message purely. -/
structure Mp where
  t : ByteArray
  q : Int
  r : Bool
  xs : List Int
def Ms.p (m : Ms) : Mp := ⟨m.t, m.q, m.r, m.xs⟩
/-- A flight in memory: its block, its turn. -/
structure Fm where
  b : Nat
  tn : Nat
  id : Nat
  rel : Bool
  m : Ms
structure Fp where
  id : Nat
  rel : Bool
  m : Mp
def Fm.p (f : Fm) : Fp := ⟨f.id, f.rel, f.m.p⟩
def Fm.cs (f : Fm) : Array Value := #[.int .i64 f.tn, .int .i64 (awt f.m.q f.rel), .int .i64 f.id, .string f.m.t, f.m.v, .int .i64 f.m.q, .bool f.m.r]
structure FB (w : World) (f : Fm) : Prop where
  blk : w.heap[f.b]? = some (.cells f.cs 119 (0, 0))
  pay : PB w f.m.v f.m.xs
/-- Where a number's flight is. -/
def lookF (fs : List Fm) (k : Int) : Option Nat := (fs.find? (fun f => decide ((f.id : Int) = k))).map (·.b)
theorem lookF_some {fs : List Fm} {k : Int} {b : Nat} (h : lookF fs k = some b) : ∃ f ∈ fs, (f.id : Int) = k ∧ f.b = b := by
  unfold lookF at h
  obtain ⟨f, hf, rfl⟩ := Option.map_eq_some_iff.1 h
  refine ⟨f, List.mem_of_find?_eq_some hf, ?_, rfl⟩
  simpa using List.find?_some hf
theorem lookF_mem {fs : List Fm} (hn : (fs.map (·.id)).Nodup) {f : Fm} (hf : f ∈ fs) : lookF fs (f.id : Int) = some f.b := by
  induction fs with
  | nil => cases hf
  | cons g fs ih =>
    unfold lookF
    simp only [List.find?_cons]
    by_cases e : g.id = f.id
    · simp only [e, decide_true, Option.map_some]
      rcases List.mem_cons.1 hf with rfl | q
      · rfl
      · exfalso
        simp only [List.map_cons, List.nodup_cons] at hn
        exact hn.1 (by rw [e]; exact List.mem_map.2 ⟨f, q, rfl⟩)
    · have : decide ((g.id : Int) = (f.id : Int)) = false := by simp; omega
      simp only [this]
      rcases List.mem_cons.1 hf with rfl | q
      · exact absurd rfl e
      · exact ih (by simp only [List.map_cons, List.nodup_cons] at hn; exact hn.2) q
theorem lookF_none {fs : List Fm} {k : Int} (h : ∀ f ∈ fs, (f.id : Int) ≠ k) : lookF fs k = none := by
  unfold lookF
  rw [Option.map_eq_none_iff, List.find?_eq_none]
  intro f hf
  simpa using h f hf
theorem nodup_of_map {α β : Type} (f : α → β) {l : List α} (h : (l.map f).Nodup) : l.Nodup := (List.pairwise_map.1 h).imp (fun q e => q (congrArg f e))
/-- The places in the order of their turns are the flights'. -/
theorem order_is {fs : List Fm} {ps : List (Int × Nat)} {ys : List Nat} {tn : Nat → Int} (hn : (fs.map (·.id)).Nodup) (hid : ∀ f ∈ fs, f.id ≤ 65535) (hb : (fs.map (·.b)).Nodup) (ht : ∀ f ∈ fs, tn f.b = f.tn) (hs : fs.Pairwise (fun a b => a.tn < b.tn))
    (hA : AllOf (lookF fs) ps) (hp : ys.Perm (ps.map (·.2))) (hT : ByT tn ys) : ys = fs.map (·.b) := by
  obtain ⟨h1, h2, h3⟩ := hA
  have hpe : ps.Perm (fs.map (fun f => ((f.id : Int), f.b))) := by
    refine (List.perm_ext_iff_of_nodup ?_ ?_).2 (fun x => ?_)
    · exact nodup_of_map _ h1
    · refine nodup_of_map (fun x : Int × Nat => x.2) ?_
      simpa [Function.comp_def] using hb
    · constructor
      · intro hx
        obtain ⟨f, hf, e1, e2⟩ := lookF_some (h2 x hx).2
        exact List.mem_map.2 ⟨f, hf, by rw [e1, e2]⟩
      · intro hx
        obtain ⟨f, hf, rfl⟩ := List.mem_map.1 hx
        have hk := okI_nat f.id (by have := hid f hf; omega)
        have hl := lookF_mem hn hf
        obtain ⟨y, hy, e⟩ := List.mem_map.1 (h3 _ hk (by rw [hl]; rfl))
        have h5 := (h2 y hy).2
        rw [e, hl] at h5
        have : y = ((f.id : Int), f.b) := Prod.ext e (by injection h5 with h5; exact h5.symm)
        rw [← this]
        exact hy
  have hq : ys.Perm (fs.map (·.b)) := hp.trans (by
    have := hpe.map (fun x : Int × Nat => x.2)
    simpa [Function.comp_def] using this)
  refine List.Perm.eq_of_pairwise (le := fun a b => tn a ≤ tn b) (fun a b ha hb' l1 l2 => ?_) hT ?_ hq
  · obtain ⟨f, hf, rfl⟩ := List.mem_map.1 (hq.mem_iff.1 ha)
    obtain ⟨g, hg, rfl⟩ := List.mem_map.1 hb'
    rw [ht f hf, ht g hg] at l1 l2
    have : f.tn = g.tn := by omega
    have key : ∀ (l : List Fm), l.Pairwise (fun a b => a.tn < b.tn) → f ∈ l → g ∈ l → f = g := by
      intro l hl
      induction hl with
      | nil => intro q; cases q
      | cons h1 _ ih =>
        intro q1 q2
        rcases List.mem_cons.1 q1 with e1 | e1 <;> rcases List.mem_cons.1 q2 with e2 | e2
        · rw [e1, e2]
        · have := h1 _ e2; rw [← e1] at this; omega
        · have := h1 _ e1; rw [← e2] at this; omega
        · exact ih e1 e2
    rw [key fs hs hf hg]
  · rw [List.pairwise_map]
    exact hs.imp_of_mem (fun {a b} ha hb q => by rw [ht a ha, ht b hb]; omega)
end Go.Proofs.YtmihpmmkkklpfaaGreatDoor
namespace Go.Proofs.YtmihpmmkkklpfaaGreatDoor
open Go Go.RowKit Go.Shelf Go.Maps Go.Sort
set_option linter.unusedSimpArgs false
set_option linter.unusedVariables false
structure Fo where
  id : Nat
  m : Ms
  rel : Bool
def Fo.cs (f : Fo) : Array Value := #[.int .i64 f.id, .string f.m.t, f.m.v, .int .i64 f.m.q, .bool f.m.r, .bool f.rel]
def Fo.p (f : Fo) : Fp := ⟨f.id, f.rel, f.m.p⟩
def frow (L : List Fo) : List Value := L.flatMap (fun f => f.cs.toList)
theorem frow_snoc (L : List Fo) (f : Fo) : frow (L ++ [f]) = frow L ++ f.cs.toList := by simp [frow]
theorem info45 : (Tryz.prog.info? 108).map (fun i => (i.zero, i.size, i.bytes)) = some (some (.agg #[.int .i64 0, .string ⟨#[]⟩, .slice none 0 0, .int .i64 0, .bool false, .bool false]), 6, 72) := by kernel_rfl
theorem own_sl {w : World} {B e s n : Nat} {v : Value} {xs : List Value} (h : w.ownsRow B e s v n xs) : ∃ a c, v = .slice a n c := by
  rcases h.2 with ⟨h1, h2⟩ | ⟨g, cap, cur, h1, _⟩
  · subst h2; exact ⟨_, _, h1⟩
  · exact ⟨_, _, h1⟩
theorem own_at {w : World} {B e n : Nat} {v : Value} {xs : List Value} (h : w.ownsRow B e 1 v n xs) {j : Nat} (hj : j < n) : ∃ g c, v = .slice (some ⟨g, 0, none⟩) n c ∧ w.cell? ⟨g, j, none⟩ = xs[j]? := by
  rcases h.2 with ⟨_, h2⟩ | ⟨g, cap, cur, h1, h2, h3, h4, h5, h6, h7⟩
  · omega
  · refine ⟨g, cap, h1, ?_⟩
    have := congrArg (fun l => l[j]?) h7
    simp only [Nat.mul_one, List.getElem?_take, if_pos hj] at this
    rw [← this]
    simp [World.cell?, h3]
theorem awt7 (q : Int) (rel : Bool) : (awt q rel == 7) = rel := by
  unfold awt
  cases rel
  · by_cases h : q = 2 <;> simp [h]
  · simp
/-- The flights, told. -/
def FlOut (w w' : World) (fs : List Fm) (v : Value) : Prop := ∃ L, w'.ownsRow w.heap.size 108 6 v fs.length (frow L) ∧ L.map Fo.p = fs.map Fm.p ∧ (∀ o ∈ L, PB w' o.m.v o.m.xs) ∧ Below w.heap.size w w'
/-- What flights has laid so far. -/
structure Fi (w wx : World) (fs : List Fm) (vs s3 : Value) (j : Nat) (L : List Fo) : Prop where
  own : wx.ownsRow w.heap.size 108 6 s3 j (frow L)
  is : L.map Fo.p = (fs.take j).map Fm.p
  pay : ∀ o ∈ L, PB wx o.m.v o.m.xs
  bel : Below w.heap.size w wx
  row : wx.ownsRow w.heap.size 114 1 vs fs.length (fs.map (fun f => pt f.b))
theorem own_below {w w' : World} {B e s n : Nat} {v : Value} {xs : List Value} (h : w.ownsRow B e s v n xs) (hb : Below w.heap.size w w') : w'.ownsRow B e s v n xs := own_ch h (Below.ch (S := fun _ => False) hb) (fun _ _ q => q)
theorem own0 {w : World} {B e s n : Nat} {v : Value} {xs : List Value} (h : w.ownsRow B e s v n xs) : w.ownsRow 0 e s v n xs := by
  refine ⟨h.1, ?_⟩
  rcases h.2 with q | ⟨g, cap, cur, q, q1, q2⟩
  · exact .inl q
  · exact .inr ⟨g, cap, cur, q, Nat.zero_le _, q2⟩
theorem Fi.step {w wx w1 w2 : World} {fs : List Fm} {vs s3 : Value} {j : Nat} {L : List Fo} (h : Fi w wx fs vs s3 j L) (hj : j < fs.length) (hb : Below wx.heap.size wx w1) {pv : Value} (hp : PB w1 pv fs[j].m.xs) {v' : Value}
    (ho : w2.ownsRow 0 108 6 v' (j + 1) (frow L ++ [.int .i64 fs[j].id, .string fs[j].m.t, pv, .int .i64 fs[j].m.q, .bool fs[j].m.r, .bool fs[j].rel])) (hc : Ch (fun k => s3.ownBlock = some k) w1 w2) (hg : ∃ g, v'.ownBlock = some g ∧ (s3.ownBlock = some g ∨ w1.heap.size ≤ g)) :
    ∃ L', Fi w w2 fs vs v' (j + 1) L' := by
  have hown1 : w1.ownsRow w.heap.size 108 6 s3 j (frow L) := own_below h.own hb
  have hsz : w.heap.size ≤ w1.heap.size := Nat.le_trans h.bel.size hb.size
  have h3 : ∀ k, s3.ownBlock = some k → w.heap.size ≤ k ∧ ∃ cur, w1.heap[k]? = some (.cells cur 108 (0, 0)) := fun k hk => by
    refine ⟨?_, own_lt hown1 hk⟩
    rcases hown1.2 with ⟨rfl, _⟩ | ⟨g, cap, cur, rfl, q, _⟩
    · simp [Value.ownBlock] at hk
    · simp [Value.ownBlock] at hk
      omega
  have hkb : Kb w1 w2 := Kb.ch hc (fun k hk cs fz q => by obtain ⟨cur, e⟩ := (h3 k hk).2; rw [e] at q; simp at q)
  refine ⟨L ++ [⟨fs[j].id, ⟨fs[j].m.t, pv, fs[j].m.q, fs[j].m.r, fs[j].m.xs⟩, fs[j].rel⟩], ⟨?_, ?_, ?_, ?_, ?_⟩⟩
  · rw [frow_snoc]
    refine ⟨ho.1, ?_⟩
    rcases ho.2 with q | ⟨g, cap, cur, e, q1, q2⟩
    · exact .inl q
    · refine .inr ⟨g, cap, cur, e, ?_, q2⟩
      obtain ⟨g', e', q⟩ := hg
      rw [e] at e'
      simp [Value.ownBlock] at e'
      subst e'
      rcases q with q | q
      · exact (h3 _ q).1
      · omega
  · rw [List.map_append, h.is, List.take_succ_eq_append_getElem hj, List.map_append]
    rfl
  · intro o ho'
    rcases List.mem_append.1 ho' with q | q
    · exact ((h.pay o q).keep (Kb.below hb)).keep hkb
    · simp only [List.mem_singleton] at q
      subst q
      exact hp.keep hkb
  · have hb1 : Below w.heap.size w w1 := h.bel.trans (hb.mono h.bel.size)
    exact ⟨hc.os.trans hb1.os, hc.tape.trans hb1.tape, hc.output.trans hb1.output, Nat.le_trans hb1.size hc.size, fun k hk => (hc.block k (by omega) (fun q => by have := (h3 k q).1; omega)).trans (hb1.block k hk)⟩
  · refine own_ch (own_below h.row hb) hc (fun g hg q => ?_)
    obtain ⟨cur, e⟩ := (h3 g q).2
    obtain ⟨cur', e'⟩ := own_lt (own_below h.row hb) hg
    rw [e] at e'
    simp at e'
theorem Fi.arm {w wr w1 : World} {fs : List Fm} {vs lv : Value} {j : Nat} {L : List Fo} (h : Fi w wr fs vs lv j L) (hj : j < fs.length) (hl : j ≤ 1000000) {f : Fm} (hf : f = fs[j]) (hb : Below wr.heap.size wr w1) {pv : Value} (hp : PB w1 pv f.m.xs) :
    ∃ g' cap' w2, (Builtin.append_ #[28, 28] 28 #[lv, .slice (some ⟨w1.heap.size, 0, none⟩) 1 1]).run Tryz.prog (w1.alloc (.cells #[.int .i64 f.id, .string f.m.t, pv, .int .i64 f.m.q, .bool f.m.r, .bool f.rel] 108)) = .ok (.slice (some ⟨g', 0, none⟩) (j + 1) cap') w2 ∧ (∀ (b : Nat) (cs : Array Value), w1.heap[b]? = some (Obj.cells cs 119 (0, 0)) → w2.heap[b]? = some (Obj.cells cs 119 (0, 0))) ∧ ∃ L', Fi w w2 fs vs (.slice (some ⟨g', 0, none⟩) (j + 1) cap') (j + 1) L' := by
  have ho := own0 (own_below h.own hb)
  obtain ⟨a1, n1, c1, hpv⟩ := hp.sl
  obtain ⟨g', cap', w2, hr, ho2, hc2, hg2⟩ := app_gen (st := 28) (e := 108) (cs := #[.int .i64 f.id, .string f.m.t, pv, .int .i64 f.m.q, .bool f.m.r, .bool f.rel]) Tryz.underlying28 info45 rfl (by omega) (by omega) ho rfl (by rw [hpv]; simp [Value.oneCell']) hl
  refine ⟨g', cap', w2, hr, fun b cs hbl => ?_, ?_⟩
  · refine (hc2.block b (Array.getElem?_eq_some_iff.1 hbl).1 (fun q => ?_)).trans hbl
    obtain ⟨cur, e⟩ := own_lt ho q
    rw [hbl] at e
    simp at e
  · subst hf
    exact h.step hj hb hp ho2 hc2 ⟨g', rfl, hg2⟩
set_option maxRecDepth 100000 in
set_option maxHeartbeats 4000000 in
theorem flights_any {w : World} {wb : Nat} {mu : Value} {fs : List Fm} (c5 : w.cell? ⟨wb, 5, none⟩ = some mu) (hM : MI w mu fs.length (fun k => (lookF fs k).map pt)) (hF : ∀ f ∈ fs, FB w f) (hn : (fs.map (·.id)).Nodup) (hid : ∀ f ∈ fs, f.id ≤ 65535) (hs : fs.Pairwise (fun a b => a.tn < b.tn)) (hl : fs.length ≤ 65535) :
    Calls Tryz.prog 46 #[.pointer (some ⟨wb, 0, none⟩)] w fun e w' => ∃ v, e = .returned v ∧ FlOut w w' fs v := by
  obtain ⟨i0, hi, hz0, hz1, hz2⟩ := info_parts info45
  have hbn : (fs.map (·.b)).Nodup := by
    have hinj : ∀ f ∈ fs, ∀ g ∈ fs, f.b = g.b → f.id = g.id := fun f hf g hg e => by
      have h1 := (hF f hf).blk
      have h2 := (hF g hg).blk
      rw [e, h2] at h1
      simp only [Option.some.injEq, Obj.cells.injEq] at h1
      have := congrArg (fun a : Array Value => a[2]?) h1.1
      simp [Fm.cs] at this
      omega
    refine List.pairwise_map.2 (List.Pairwise.imp_of_mem (R := fun a b => a.id ≠ b.id) (fun {a b} ha hb q e => q (hinj a ha b hb e)) (List.pairwise_map.1 hn))
  obtain ⟨n, hnn⟩ : ∃ n, n = fs.length := ⟨_, rfl⟩
  have hlen := hM.len Tryz.underlying94 3
  rw [← hnn] at hlen
  obtain ⟨wm, hmk, hmo, hmg⟩ := run_make_own w w.heap.size 28 108 i0 _ 6 Tryz.underlying28 hi hz0 hz1 .i64 .i64 n (by rw [hz2]; omega) (by unfold maxLen; omega) (Nat.le_refl _)
  have hbm : Below w.heap.size w wm := ⟨hmg.os, hmg.tape, hmg.output, hmg.size, fun k hk => hmg.block k hk (fun q => by cases q)⟩
  have hwl : wb < w.heap.size := World.block_lt_of_cell? _ _ c5
  have c5m := (hbm.cell (p := ⟨wb, 5, none⟩) hwl).trans c5
  have H53 := hidi (mvals_any mu hM.mk wm)
  obtain ⟨tn, htn⟩ : ∃ tn : Nat → Int, ∀ f ∈ fs, tn f.b = f.tn := by
    refine ⟨fun b => ((fs.find? (fun f => decide (f.b = b))).map (fun f => (f.tn : Int))).getD 0, fun f hf => ?_⟩
    cases e : fs.find? (fun g => decide (g.b = f.b)) with
    | none => have := List.find?_eq_none.1 e f hf; simp at this
    | some g =>
      have h1 := List.mem_of_find?_eq_some e
      have h2 : g.b = f.b := by simpa using List.find?_some e
      have h3 := (hF f hf).blk
      have h4 := (hF g h1).blk
      rw [h2, h3] at h4
      simp only [Option.some.injEq, Obj.cells.injEq] at h4
      have := congrArg (fun a : Array Value => a[0]?) h4.1
      simp [Fm.cs] at this
      simp [e]
      omega
  have hba : Below w.heap.size w (wm.alloc (.cells #[mu] 94)) := hbm.alloc hbm.size _
  have H52 := hidi (sortedf_any wm.heap.size n mu (lookF fs) tn (wm.alloc (.cells #[mu] 94)) (by rw [hnn]; exact hM.keep (fun b hb => hba.block b (hM.lt hb))) (by simp) (box_cells (heap_alloc_new wm _) 0 _ rfl) (by omega)
    (fun ps hA => by
      have := List.Nodup.length_le_of_subset hA.1 (l₂ := fs.map (fun f => (f.id : Int))) (fun x hx => by
        obtain ⟨p, hp, rfl⟩ := List.mem_map.1 hx
        obtain ⟨f, hf, e, _⟩ := lookF_some (hA.2.1 p hp).2
        exact List.mem_map.2 ⟨f, hf, e⟩)
      simp at this
      omega)
    (fun k b hk hb => by
      obtain ⟨f, hf, e1, rfl⟩ := lookF_some hb
      have h1 := (hF f hf).blk
      have h2 := (Array.getElem?_eq_some_iff.1 h1).1
      refine ⟨by have := hba.size; omega, ?_⟩
      rw [htn f hf]
      exact (hba.cell (p := ⟨f.b, 0, none⟩) h2).trans (box_cells h1 0 _ rfl)))
  have HO := hidi (And.intro hmo (And.intro hba (And.intro hbm hmg.size)))
  have HF := hidi hF
  have HT := hidi (And.intro hn (And.intro hid (And.intro hbn (And.intro htn hs))))
  have HL := hidi hl
  have HN := hidi hnn
  clear hM hF hn hid hs hl hbn htn hmo hbm hba hmg hnn hi hz0 hz1 hz2
  go_enter Tryz.func46, Tryz.ntmps46
  go_wp2_with fail
  go_must (go_at_call 71)
  refine H53.out.mono ?_
  rintro e w1 ⟨rfl, rfl⟩
  clear hlen hmk c5 c5m
  go_wp2_with fail
  go_must (go_at_call 70)
  refine H52.out.mono ?_
  rintro e w2 ⟨vs, ps, ys, rfl, hA, hp, hT, ho, hb⟩
  have hy : ys = fs.map (·.b) := order_is HT.out.1 HT.out.2.1 HT.out.2.2.1 HT.out.2.2.2.1 HT.out.2.2.2.2 hA hp hT
  subst hy
  have hsz : w.heap.size ≤ (wm.alloc (.cells #[mu] 94)).heap.size := HO.out.2.1.size
  have F0 : Fi w w2 fs vs (.slice (some ⟨w.heap.size, 0, none⟩) 0 n) 0 [] := ⟨own_below (HO.out.1.alloc _) hb, by simp, by simp, HO.out.2.1.trans (hb.mono hsz), by
    have h5 : w2.ownsRow (wm.alloc (.cells #[mu] 94)).heap.size 114 1 vs fs.length (fs.map (fun f => pt f.b)) := by simpa [Function.comp_def] using ho
    refine ⟨h5.1, ?_⟩
    rcases h5.2 with q | ⟨g, cap, cur, e, q1, q2⟩
    · exact .inl q
    · exact .inr ⟨g, cap, cur, e, by omega, q2⟩⟩
  obtain ⟨va, vc, hvs⟩ := own_sl F0.row
  rw [← HN.out] at hvs
  subst hvs
  have HF0 := hidi F0
  clear F0 ho hb hA hp hT hsz H52 H53
  go_wp2_with fail
  go_loopg [3, 19] n (fun gk s3 s19 wx => ∃ (j : Nat) (L : List Fo) (lv : Value), j + gk = n ∧ s19 = .int .i64 j ∧ lv = s3 ∧ Hid (Fi w wx fs (.slice va n vc) lv j L))
  case atStart => exact ⟨0, [], _, by omega, rfl, rfl, HF0.out⟩
  case round =>
    obtain ⟨j, L, lv, hj, rfl, rfl, HI⟩ := hrel
    by_cases hjn : j < n
    · have hlt : (j : Int) < (n : Int) := by omega
      have hge : (0 : Int) ≤ (j : Int) := by omega
      have hjf : j < fs.length := by rw [← HN.out]; exact hjn
      have hw1 : IntKind.i64.wrap ((j : Int) + 1) = (j : Int) + 1 := by rw [IntKind.wrap_i64]; have := HL.out; omega
      obtain ⟨g, c, hv, hcell⟩ := own_at HI.out.row hjf
      have hva : va = some ⟨g, 0, none⟩ := by injection hv
      subst hva
      have hfb := HF.out _ (List.getElem_mem hjf)
      have hpy : PB wr fs[j].m.v fs[j].m.xs := hfb.pay.keep (Kb.below HI.out.bel)
      have hbl := hfb.blk
      have hbs := (Array.getElem?_eq_some_iff.1 hbl).1
      replace hbl : wr.heap[fs[j].b]? = some (.cells fs[j].cs 119 (0, 0)) := (HI.out.bel.block _ hbs).trans hbl
      obtain ⟨f, hf⟩ : ∃ f, f = fs[j] := ⟨_, rfl⟩
      have ARM := hidi (fun (w1 : World) (pv : Value) (hb : Below wr.drew.heap.size wr.drew w1) (hp : PB w1 pv f.m.xs) => HI.out.arm (w1 := w1) (pv := pv) hjf (show j ≤ 1000000 by have := HL.out; omega) hf ((Below.refl wr.heap.size wr).drew.trans hb) hp)
      rw [← hf] at hpy hbl hbs
      have hcell' : wr.cell? ⟨g, j, none⟩ = some (pt f.b) := by rw [hcell, hf]; simp [hjf]
      clear hcell hfb hv hf
      obtain ⟨b, tnn, id, rl, m⟩ := f
      obtain ⟨t, pv, q, r, xs⟩ := m
      obtain ⟨pa, pn, pc, rfl⟩ := hpy.sl
      obtain ⟨kd, hkd⟩ : ∃ kd, kd = awt q rl := ⟨_, rfl⟩
      have hk7 : (kd == 7) = rl := by rw [hkd]; exact awt7 q rl
      simp only [Fm.cs, ← hkd] at hbl
      have k1 := box_cells hbl 1 _ rfl
      have k2 := box_cells hbl 2 _ rfl
      have k3 := box_cells hbl 3 _ rfl
      have k4 := box_cells hbl 4 _ rfl
      have k5 := box_cells hbl 5 _ rfl
      have k6 := box_cells hbl 6 _ rfl
      have hbw : b < wr.heap.size := (Array.getElem?_eq_some_iff.1 hbl).1
      have HBW := hidi (And.intro hbw hbl)
      have HA := hidi (apart_any (w := wr.drew) t q r (hpy.keep (fun _ _ _ h => h)))
      have K6 := hidi (fun (W : World) (h : W.heap[b]? = some (.cells #[.int .i64 tnn, .int .i64 kd, .int .i64 id, .string t, .slice pa pn pc, .int .i64 q, .bool r] 119 (0, 0))) => (show W.cell? ⟨b, 1, none⟩ = some (.int .i64 kd) ∧ W.cell? ⟨b, 2, none⟩ = some (.int .i64 (id : Int)) ∧ W.cell? ⟨b, 3, none⟩ = some (.string t) ∧ W.cell? ⟨b, 4, none⟩ = some (.slice pa pn pc) ∧ W.cell? ⟨b, 5, none⟩ = some (.int .i64 q) ∧ W.cell? ⟨b, 6, none⟩ = some (.bool r) from ⟨box_cells h 1 _ rfl, box_cells h 2 _ rfl, box_cells h 3 _ rfl, box_cells h 4 _ rfl, box_cells h 5 _ rfl, box_cells h 6 _ rfl⟩))
      unfold pt at hcell'
      clear hkd hpy hbl hbs hbw hjf
      go_wp2_with fail
      go_region_held_law (fun w' => w'.cell? ⟨b, 1, none⟩ = some (.int .i64 kd) ∧ w'.cell? ⟨b, 2, none⟩ = some (.int .i64 (id : Int)) ∧ w'.cell? ⟨b, 3, none⟩ = some (.string t) ∧ w'.cell? ⟨b, 4, none⟩ = some (.slice pa pn pc) ∧ w'.cell? ⟨b, 5, none⟩ = some (.int .i64 q) ∧ w'.cell? ⟨b, 6, none⟩ = some (.bool r)) (first | go_keep | exact ⟨k1, k2, k3, k4, k5, k6⟩) (first
        | (refine step_app rfl (.tmp 23) (.tmp 41) 28 28 rfl _ _ rfl rfl _ w2 HR.out ?_; clear k1 k2 k3 k4 k5 k6; obtain ⟨k1, k2, k3, k4, k5, k6⟩ := HK2.out)
        | (go_at_call 73; refine HA.out.mono ?_; rintro e w1 ⟨v1, rfl, hp, hb⟩; obtain ⟨a1, n1, c1, rfl⟩ := hp.sl; obtain ⟨g', cap', w2, hr, hk, hst⟩ := ARM.out _ _ hb hp; have HR := hidi hr; have hb1 := later_at (w := wr.drew) HBW.out.2 hb; have HK2 := hidi (K6.out _ (hk _ _ hb1)); have ST := hidi hst; clear k1 k2 k3 k4 k5 k6; obtain ⟨k1, k2, k3, k4, k5, k6⟩ := K6.out _ hb1; clear hr hb1 hk hst hp hb HA; unfold mg))
      go_wp2_with fail
      go_roundg (n - (j + 1))
      case measure => omega
      case rel =>
        obtain ⟨L', hF⟩ := ST.out
        exact ⟨j + 1, L', _, by omega, by first | rfl | simp, rfl, hF⟩
    · have hlt : ¬ (j : Int) < (n : Int) := by omega
      have hjn' : j = fs.length := by rw [← HN.out]; omega
      subst hjn'
      go_wp2_with fail
      go_ret
      exact ⟨lv, rfl, L, HI.out.own, by simpa using HI.out.is, HI.out.pay, HI.out.bel⟩
end Go.Proofs.YtmihpmmkkklpfaaGreatDoor
