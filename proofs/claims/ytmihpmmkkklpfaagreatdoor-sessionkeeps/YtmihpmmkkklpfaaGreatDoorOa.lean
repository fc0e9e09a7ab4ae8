import Derived.Test.YtmihpmmkkklpfaaGreatDoorNn
import Derived.Test.YtmihpmmkkklpfaaGreatDoorShelf
import Derived.Shelf.SlSortCmp.Whole1
import Derived.Shelf.SlGeneric
import Derived.Ground.SlsfProg
import Derived.Shelf.SlSortCmp.Insertion
import Derived.Test.YtmihpmmkkklpfaaGreatDoorProg
namespace Go.Proofs.YtmihpmmkkklpfaaGreatDoor
open Go Go.RowKit Go.Shelf Go.Maps Go.Sort
set_option linter.unusedSimpArgs false
set_option linter.unusedVariables false
set_option maxRecDepth 100000 in
set_option maxHeartbeats 1000000 in
theorem byTurn_any {a b : Nat} {x y : Int} {w : World} (ha : w.cell? ⟨a, 0, none⟩ = some (.int .i64 x)) (hb : w.cell? ⟨b, 0, none⟩ = some (.int .i64 y)) :
    Calls Tryz.prog 72 #[.pointer (some ⟨a, 0, none⟩), .pointer (some ⟨b, 0, none⟩)] w fun e w' => e = .returned (.int .i64 (Lib.compareInt x y)) ∧ ∃ m, w' = w.drewN m := by
  have hc := Tryz.cmp_Compare_int x y
  go_enter Tryz.func72, Tryz.ntmps72
  go_wp2_with fail
  go_quiet ((go_at_call 99; exact Calls.quiet_of_same (hc _)))
  go_wp2_with fail
  go_ret
  exact ⟨rfl, _, rfl⟩
end Go.Proofs.YtmihpmmkkklpfaaGreatDoor
/-
  DERIVED: THE SHELF's CONTRACTS AT THIS DUMP, IN PLAIN WORDS (tools/lay-plain.mjs out of 'TrydSort.lean', which tools/lay-shelf.mjs wrote): THE SAME DECLARATIONS UNDER THE SAME NAMES: 'import', 'namespace', 'open', 'def', 'theorem' AND NOTHING ELSE: no command of the shelf's: FOR A HAND-IN. Each laying: the table of numbers ('.._ren') and one theorem, a field a fact of the dump's own or the kernel's comparison; each contract: ONE APPLICATION.
-/
namespace Go.Proofs
open Go.Shelf
def Tryz.sfl_ren : Go.Shelf.Ren := ⟨fun | 6 => 97 | 15 => 85 | 14 => 129 | 28 => 114 | 29 => 115 | 20 => 142 | 21 => 143 | 22 => 144 | 23 => 145 | 24 => 146 | 25 => 147 | 26 => 148 | 27 => 149 | 46 => 156 | 47 => 135 | 48 => 136 | 49 => 157 | 50 => 158 | 57 => 161 | n => n, fun | 22 => 139 | 24 => 114 | 25 => 144 | 3 => 3 | 39 => 156 | 0 => 0 | 53 => 183 | 55 => 171 | 4 => 4 | 46 => 177 | 45 => 176 | 50 => 125 | 5 => 5 | 9 => 9 | 66 => 197 | 70 => 201 | 76 => 216 | 77 => 217 | n => n, fun | n => n⟩
theorem Tryz.sfl : Go.Proofs.SlLaysF.n6 Tryz.prog Tryz.sfl_ren := {
  mixed := by kernel_rfl
  f6 := ⟨Tryz.f97.name, by decide, Tryz.func97.trans (congrArg some (by kernel_rfl))⟩
  f14 := ⟨Tryz.f129.name, by decide, Tryz.func129.trans (congrArg some (by kernel_rfl))⟩
  f15 := Tryz.func85.trans (congrArg some (by kernel_rfl))
  f20 := ⟨Tryz.f142.name, by decide, Tryz.func142.trans (congrArg some (by kernel_rfl))⟩
  f21 := ⟨Tryz.f143.name, by decide, Tryz.func143.trans (congrArg some (by kernel_rfl))⟩
  f22 := ⟨Tryz.f144.name, by decide, Tryz.func144.trans (congrArg some (by kernel_rfl))⟩
  f23 := ⟨Tryz.f145.name, by decide, Tryz.func145.trans (congrArg some (by kernel_rfl))⟩
  f24 := ⟨Tryz.f146.name, by decide, Tryz.func146.trans (congrArg some (by kernel_rfl))⟩
  f25 := ⟨Tryz.f147.name, by decide, Tryz.func147.trans (congrArg some (by kernel_rfl))⟩
  f26 := ⟨Tryz.f148.name, by decide, Tryz.func148.trans (congrArg some (by kernel_rfl))⟩
  f27 := ⟨Tryz.f149.name, by decide, Tryz.func149.trans (congrArg some (by kernel_rfl))⟩
  f28 := Tryz.func114.trans (congrArg some (by kernel_rfl))
  f29 := Tryz.func115.trans (congrArg some (by kernel_rfl))
  f46 := ⟨Tryz.f156.name, by decide, Tryz.func156.trans (congrArg some (by kernel_rfl))⟩
  f47 := Tryz.func135.trans (congrArg some (by kernel_rfl))
  f48 := Tryz.func136.trans (congrArg some (by kernel_rfl))
  f49 := ⟨Tryz.f157.name, by decide, Tryz.func157.trans (congrArg some (by kernel_rfl))⟩
  f50 := ⟨Tryz.f158.name, by decide, Tryz.func158.trans (congrArg some (by kernel_rfl))⟩
  f57 := ⟨Tryz.f161.name, by decide, Tryz.func161.trans (congrArg some (by kernel_rfl))⟩
  t0 := Tryz.underlying0
  a0 := Tryz.isAgg0
  z0 := Tryz.sizeOf0
  v0 := Tryz.zeroValue0
  t3 := Tryz.underlying3
  a3 := Tryz.isAgg3
  z3 := Tryz.sizeOf3
  v3 := Tryz.zeroValue3
  t4 := Tryz.underlying4
  a4 := Tryz.isAgg4
  z4 := Tryz.sizeOf4
  v4 := Tryz.zeroValue4
  t5 := Tryz.underlying5
  a5 := Tryz.isAgg5
  z5 := Tryz.sizeOf5
  v5 := Tryz.zeroValue5
  t9 := Tryz.underlying9
  a9 := Tryz.isAgg9
  z9 := Tryz.sizeOf9
  v9 := Tryz.zeroValue9
  t22 := Tryz.underlying139
  a22 := Tryz.isAgg139
  z22 := Tryz.sizeOf139
  v22 := Tryz.zeroValue139
  a24 := Tryz.isAgg114
  z24 := Tryz.sizeOf114
  t25 := Tryz.underlying144
  a25 := Tryz.isAgg144
  z25 := Tryz.sizeOf144
  v25 := Tryz.zeroValue144
  t39 := Tryz.underlying156
  a39 := Tryz.isAgg156
  z39 := Tryz.sizeOf156
  v39 := Tryz.zeroValue156
  t45 := Tryz.underlying176
  a45 := Tryz.isAgg176
  z45 := Tryz.sizeOf176
  v45 := Tryz.zeroValue176
  t46 := Tryz.underlying177
  a46 := Tryz.isAgg177
  z46 := Tryz.sizeOf177
  v46 := Tryz.zeroValue177
  t50 := Tryz.underlying125
  a50 := Tryz.isAgg125
  z50 := Tryz.sizeOf125
  v50 := Tryz.zeroValue125
  t53 := Tryz.underlying183
  a53 := Tryz.isAgg183
  z53 := Tryz.sizeOf183
  v53 := Tryz.zeroValue183
  t55 := Tryz.underlying171
  a55 := Tryz.isAgg171
  z55 := Tryz.sizeOf171
  v55 := Tryz.zeroValue171
  t66 := Tryz.underlying197
  a66 := Tryz.isAgg197
  z66 := Tryz.sizeOf197
  v66 := Tryz.zeroValue197
  t70 := Tryz.underlying201
  a70 := Tryz.isAgg201
  z70 := Tryz.sizeOf201
  v70 := Tryz.zeroValue201
  t76 := Tryz.underlying216
  a76 := Tryz.isAgg216
  z76 := Tryz.sizeOf216
  v76 := Tryz.zeroValue216
  t77 := Tryz.underlying217
  a77 := Tryz.isAgg217
  z77 := Tryz.sizeOf217
  v77 := Tryz.zeroValue217 }
end Go.Proofs
namespace Go.Proofs.YtmihpmmkkklpfaaGreatDoor
open Go Go.RowKit Go.Shelf Go.Maps Go.Sort
set_option linter.unusedSimpArgs false
set_option linter.unusedVariables false
/-! ### SortFunc of places by their turn -/
/-- A place, if it is one of these; else the first of them. -/
def clipL (L : List Nat) (b : Nat) : Nat := if b ∈ L then b else L.headD 0
theorem clipL_mem {L : List Nat} (h : L ≠ []) (b : Nat) : clipL L b ∈ L := by
  unfold clipL
  split
  · assumption
  · cases L with
    | nil => exact absurd rfl h
    | cons x t => simp
theorem clipL_eq {L : List Nat} {b : Nat} (h : b ∈ L) : clipL L b = b := if_pos h
def encP (L : List Nat) (b : Nat) : Value := pt (clipL L b)
def cfP (L : List Nat) (tn : Nat → Int) (a b : Nat) : Int := Lib.compareInt (tn (clipL L a)) (tn (clipL L b))
theorem ltP (L : List Nat) (tn : Nat → Int) (a b : Nat) : ltOf (cfP L tn) a b = decide (tn (clipL L a) < tn (clipL L b)) := by
  unfold ltOf cfP Lib.compareInt
  by_cases h : tn (clipL L a) < tn (clipL L b)
  · simp [h]
  · by_cases h2 : tn (clipL L a) > tn (clipL L b) <;> simp [h, h2]
theorem swoP (L : List Nat) (tn : Nat → Int) : Go.Sort.SWO (ltOf (cfP L tn)) := by
  refine ⟨fun x => by rw [ltP]; simp, fun x y z h k => ?_, fun x y z h k => ?_⟩
  · rw [ltP] at *
    simp only [decide_eq_true_eq] at *
    omega
  · rw [ltP] at *
    simp only [decide_eq_false_iff_not] at *
    omega
theorem map_clipP {L : List Nat} {ys : List Nat} (h : ∀ x ∈ ys, x ∈ L) : ys.map (encP L) = ys.map pt := by
  apply List.map_congr_left
  intro x hx
  unfold encP
  rw [clipL_eq (h x hx)]
theorem cells_takeP (L : List Nat) (ys : List Nat) (cur : Array Value) (h : ys.length ≤ cur.size) : (Go.Sort.putCells (encP L) 0 ys.toArray cur).toList.take ys.length = ys.map (encP L) := by
  apply List.ext_getElem
  · simp [Go.Sort.putCells]
    omega
  · intro i h1 h2
    have hi : i < ys.length := by simpa using h2
    simp [Go.Sort.putCells, hi]
theorem sortW_old (L : List Nat) (w : World) (g m k : Nat) (ys : Array Nat) (os : Array Obj) (hk : k < w.heap.size) (hg : k ≠ g) : (sortWorld (encP L) w g 0 m ys os).heap[k]? = w.heap[k]? := by
  have hs : (Go.Sort.putRow (encP L) (Go.Sort.ahead w m) g 0 ys).heap.size = w.heap.size := by simp [Go.Sort.putRow, Go.Sort.mapBlock, Go.Sort.ahead]
  unfold sortWorld
  rw [Go.Sort.heap_grow_old _ _ (by rw [hs]; exact hk)]
  show (w.heap.modify g _)[k]? = _
  rw [Array.getElem?_modify, if_neg (Ne.symm hg)]
theorem own_sortedP {L : List Nat} {w : World} {B g cap m : Nat} {xs ys : List Nat} {os : Array Obj} (ho : w.ownsRow B 114 1 (.slice (some ⟨g, 0, none⟩) xs.length cap) xs.length (xs.map pt)) (hl : ys.length = xs.length) (hy : ∀ x ∈ ys, x ∈ L) :
    (sortWorld (encP L) w g 0 m ys.toArray os).ownsRow B 114 1 (.slice (some ⟨g, 0, none⟩) xs.length cap) xs.length (ys.map pt) ∧ Below B w (sortWorld (encP L) w g 0 m ys.toArray os) := by
  rcases ho with ⟨h1, ⟨h2, -⟩ | ⟨g', cap', cur, hv', hb, hg, hc1, hc2, hc3, hc4⟩⟩
  · cases h2
  simp only [Value.slice.injEq, Option.some.injEq, Addr.mk.injEq] at hv'
  obtain ⟨⟨rfl, -, -⟩, -, rfl⟩ := hv'
  have hgl : g < w.heap.size := (Array.getElem?_eq_some_iff.1 hg).1
  have hs : (Go.Sort.putRow (encP L) (Go.Sort.ahead w m) g 0 ys.toArray).heap.size = w.heap.size := by simp [Go.Sort.putRow, Go.Sort.mapBlock, Go.Sort.ahead]
  refine ⟨⟨by simp [hl], .inr ⟨g, cap, Go.Sort.putCells (encP L) 0 ys.toArray cur, rfl, hb, ?_, hc1, hc2, ?_, ?_⟩⟩, ⟨rfl, rfl, rfl, ?_, ?_⟩⟩
  · unfold sortWorld
    rw [Go.Sort.heap_grow_old _ _ (by rw [hs]; exact hgl)]
    show (w.heap.modify g _)[g]? = _
    rw [Array.getElem?_modify, if_pos rfl, hg]
    rfl
  · simpa [Go.Sort.putCells] using hc3
  · have := cells_takeP L ys cur (by rw [hl]; omega)
    rw [map_clipP hy, hl] at this
    simpa using this
  · unfold sortWorld
    rw [Go.Sort.size_grow, hs]
    omega
  · intro k hk
    exact sortW_old L w g m k ys.toArray os (by omega) (by omega)
theorem holds_rowP {L : List Nat} {w : World} {B g cap : Nat} {xs : List Nat} (ho : w.ownsRow B 114 1 (.slice (some ⟨g, 0, none⟩) xs.length cap) xs.length (xs.map pt)) (hx : ∀ x ∈ xs, x ∈ L) : Go.Sort.Holds (encP L) w g 0 xs.toArray ∧ g < w.heap.size := by
  rcases ho with ⟨h1, ⟨h2, -⟩ | ⟨g', cap', cur, hv', hb, hg, hc1, hc2, hc3, hc4⟩⟩
  · cases h2
  simp only [Value.slice.injEq, Option.some.injEq, Addr.mk.injEq] at hv'
  obtain ⟨⟨rfl, -, -⟩, -, rfl⟩ := hv'
  refine ⟨fun j hj => ?_, (Array.getElem?_eq_some_iff.1 hg).1⟩
  have hj' : j < xs.length := by simpa using hj
  have e1 : xs.toArray[j]! = xs[j] := by simp [hj']
  have e2 : encP L xs[j] = pt xs[j] := by unfold encP; rw [clipL_eq (hx _ (List.getElem_mem hj'))]
  have e3 : cur[j]? = some (pt xs[j]) := by
    have := congrArg (fun l => l[j]?) hc4
    simp only [Nat.mul_one, List.getElem?_take, if_pos hj', List.getElem?_map, List.getElem?_eq_getElem hj', Option.map_some] at this
    simpa using this
  rw [e1, e2, Nat.zero_add]
  refine ⟨?_, ?_⟩
  · simp [World.cell?, hg, e3]
  · simp [World.frozen?, hg]
set_option maxRecDepth 100000 in
set_option maxHeartbeats 2000000 in
theorem ins_none (p : Option Addr) (cap : Nat) (fv : Value) (w : World) : Calls Tryz.prog 142 #[.slice p 0 cap, .int .i64 0, .int .i64 0, fv] w fun e w' => e = .returned (.tuple #[]) ∧ w' = w := by
  go_enter Tryz.func142, Tryz.ntmps142
  go_wp2
  refine wp_loop_rounds 1 ?_
  rw [rounds_succ]
  go_wp2
  go_end0
  exact ⟨rfl, rfl⟩
set_option maxRecDepth 100000 in
set_option maxHeartbeats 2000000 in
theorem pdq_none (p : Option Addr) (cap : Nat) (lim : Int) (fv : Value) (w : World) : Calls Tryz.prog 129 #[.slice p 0 cap, .int .i64 0, .int .i64 0, .int .i64 lim, fv] w fun e w' => e = .returned (.tuple #[]) ∧ w' = w := by
  go_enter Tryz.func129, Tryz.ntmps129
  go_wp2
  refine wp_loop_rounds 1 ?_
  rw [rounds_succ]
  go_wp2_with (go_at_call 142; refine (ins_none _ _ _ _).mono ?_; rintro e w' ⟨rfl, rfl⟩)
  (try simp only [Exit.inBlock, Exit.then]); refine bodyPost_ret (results_none rfl _ _ _) rfl ?_
  exact ⟨rfl, rfl⟩
theorem len_none (w : World) : Calls Tryz.prog 85 #[.int .u64 0] w fun e w' => e = .returned (.int .i64 (Lib.bitLen 0 : Nat)) ∧ w' = w :=
  Any.bits_Len (SlLaysF0.n15.bits (P := Tryz.prog) (ρ := Tryz.sfl_ren) { Tryz.sfl with }) 0 w (by omega) (by omega)
set_option maxHeartbeats 2000000 in
theorem sort_none (p : Option Addr) (cap : Nat) (fv : Value) (w : World) : Calls Tryz.prog 97 #[.slice p 0 cap, fv] w fun e w' => e = .returned (.tuple #[]) ∧ w' = w := by
  have hl := len_none w
  go_enter Tryz.func97, Tryz.ntmps97
  go_wp2_with (first | (go_at_call 85; refine hl.mono ?_; rintro e w' ⟨rfl, rfl⟩) | (go_at_call 129; refine (pdq_none _ _ _ _ _).mono ?_; rintro e w' ⟨rfl, rfl⟩))
  go_end0
  exact ⟨rfl, rfl⟩
/-- Places in the order of their turns. -/
def ByT (tn : Nat → Int) (ys : List Nat) : Prop := ys.Pairwise (fun a b => tn a ≤ tn b)
theorem sortfunc_any (xs : List Nat) (tn : Nat → Int) (v : Value) (w : World) (B : Nat) (ho : w.ownsRow B 114 1 v xs.length (xs.map pt)) (hl : xs.length ≤ 1000000) (hc : ∀ x ∈ xs, x < w.heap.size ∧ w.cell? ⟨x, 0, none⟩ = some (.int .i64 (tn x)) ∧ v.ownBlock ≠ some x) :
    Calls Tryz.prog 97 #[v, .func (.func 72) #[] #[]] w fun e w' => e = .returned (.tuple #[]) ∧ ∃ ys, ys.Perm xs ∧ ByT tn ys ∧ w'.ownsRow B 114 1 v xs.length (ys.map pt) ∧ Below B w w' := by
  by_cases h0 : xs = []
  · subst h0
    obtain ⟨a, c, rfl⟩ : ∃ a c, v = .slice a 0 c := by
      rcases ho with ⟨-, ⟨h2, -⟩ | ⟨g', cap', cur, hv', -⟩⟩
      · exact ⟨_, _, h2⟩
      · exact ⟨_, _, hv'⟩
    refine (sort_none a c (.func (.func 72) #[] #[]) w).mono ?_
    rintro e w' ⟨rfl, rfl⟩
    exact ⟨rfl, [], List.Perm.refl _, List.Pairwise.nil, ho, Below.refl _ _⟩
  · have hp : 0 < xs.length := List.length_pos_iff.2 h0
    obtain ⟨g, c, rfl⟩ : ∃ g c, v = .slice (some ⟨g, 0, none⟩) xs.length c := by
      rcases ho with ⟨-, ⟨-, h2⟩ | ⟨g', cap', cur, hv', -⟩⟩
      · omega
      · exact ⟨_, _, hv'⟩
    obtain ⟨hH, hg⟩ := holds_rowP (L := xs) ho (fun x hx => hx)
    have hcell : ∀ (m : Nat) (os : Array Obj) (dk : Array Nat) (x : Nat), (sortWorld (encP xs) w g 0 m dk os).cell? ⟨clipL xs x, 0, none⟩ = some (.int .i64 (tn (clipL xs x))) := fun m os dk x => by
      obtain ⟨c1, c2, c3⟩ := hc _ (clipL_mem h0 x)
      rw [← c2]
      refine cell_heap ?_
      exact sortW_old xs w g m _ dk os c1 (fun e => c3 (by rw [← e]; rfl))
    have h := Any.slices_SortFunc (P := Tryz.prog) (ρ := Tryz.sfl_ren) Tryz.sfl (encP xs) (fun _ => rfl) (cfP xs tn) (swoP xs tn) 72 #[] g 0 c xs.toArray w (enters_of Tryz.func72 (by kernel_rfl) rfl)
      (fun m os dk hs x y => (byTurn_any (hcell m os dk x) (hcell m os dk y)).mono fun e w' ⟨he, q, hq⟩ => ⟨he, q, #[], by rw [hq, Go.Sort.grow_empty]⟩)
      hH hg (by simp; omega)
    have e1 : xs.toArray.size = xs.length := by simp
    rw [e1] at h
    refine Calls.mono (f := 97) h ?_
    rintro e w' ⟨rfl, d', n, os, ⟨hsz, -, hperm⟩, hS, rfl⟩
    have e2 : d'.extract 0 xs.length = d' := by rw [← e1, ← hsz]; exact Array.extract_size
    have e3 : xs.toArray.extract 0 xs.length = xs.toArray := by rw [← e1]; exact Array.extract_size
    rw [e2, e3] at hperm
    have hperm' : d'.toList.Perm xs := by simpa using hperm
    have hle : ∀ x ∈ d'.toList, x ∈ xs := fun x hx' => hperm'.mem_iff.1 hx'
    have hd : d'.size = xs.length := by rw [hsz, e1]
    have hSd : ByT tn d'.toList := by
      unfold ByT
      rw [List.pairwise_iff_getElem]
      intro i j hi hj hij
      have hi' : i < d'.size := by simpa using hi
      have hj' : j < d'.size := by simpa using hj
      have := hS i j (Nat.zero_le _) hij (by omega)
      rw [getElem!_pos d' j hj', getElem!_pos d' i hi', ltP] at this
      have h1 := of_decide_eq_false this
      rw [clipL_eq (hle _ (by simp)), clipL_eq (hle _ (by simp))] at h1
      simp only [Array.getElem_toList]
      omega
    have := own_sortedP (L := xs) (m := n) (os := os) (ys := d'.toList) ho (by simp [hd]) hle
    exact ⟨rfl, d'.toList, hperm', hSd, by simpa using this.1, by simpa using this.2⟩
end Go.Proofs.YtmihpmmkkklpfaaGreatDoor
namespace Go.Proofs.YtmihpmmkkklpfaaGreatDoor
open Go Go.RowKit Go.Shelf Go.Maps Go.Sort
set_option linter.unusedSimpArgs false
set_option linter.unusedVariables false
theorem hidi {p : Prop} (h : p) : Hid p := h
/-! ### SortedFunc of a map's values -/
set_option maxHeartbeats 1000000 in
theorem sortedf_any (Bm nn : Nat) (mv : Value) (f : Int → Option Nat) (tn : Nat → Int) (w : World) (hM : MI w mv nn (fun k => (f k).map pt)) (hBm : Bm < w.heap.size) (hm : w.cell? ⟨Bm, 0, none⟩ = some mv) (hl : nn ≤ 1000000)
    (hlen : ∀ ps, AllOf f ps → ps.length ≤ 1000000)
    (hc : ∀ k b, okI k → f k = some b → b < w.heap.size ∧ w.cell? ⟨b, 0, none⟩ = some (.int .i64 (tn b))) :
    Calls Tryz.prog 70 #[.func (.func 98) #[] #[.pointer (some ⟨Bm, 0, none⟩)], .func (.func 72) #[] #[]] w fun e w' => ∃ v ps ys, e = .returned v ∧ AllOf f ps ∧ ys.Perm (ps.map (·.2)) ∧ ByT tn ys ∧ w'.ownsRow w.heap.size 114 1 v ys.length (ys.map pt) ∧ Below w.heap.size w w' := by
  have A := hidi (collect_any Bm nn mv f w hM hBm hm hl)
  have HC := hidi hc
  have HL := hidi hlen
  clear hM hBm hm hl hc hlen
  go_enter Tryz.func70, Tryz.ntmps70
  go_wp2_with fail
  go_must (go_at_call 96)
  refine A.out.mono ?_
  clear A
  rintro e w1 ⟨v, ps, rfl, hA, ho, hb⟩
  have S := hidi (sortfunc_any (ps.map (·.2)) tn v w1 w.heap.size (by simpa [ptrs, Function.comp_def] using ho) (by simpa using HL.out ps hA) (fun x hx => by
    obtain ⟨p, hp, rfl⟩ := List.mem_map.1 hx
    obtain ⟨q1, q2⟩ := hA.2.1 p hp
    obtain ⟨c1, c2⟩ := HC.out p.1 p.2 q1 q2
    refine ⟨by have := hb.size; omega, (hb.cell (p := ⟨p.2, 0, none⟩) c1).trans c2, fun e => ?_⟩
    rcases ho.2 with ⟨rfl, _⟩ | ⟨g, cap, cur, rfl, h1, _⟩
    · simp [Value.ownBlock] at e
    · simp [Value.ownBlock] at e
      omega))
  have HA := hidi hA
  have HB := hidi hb
  clear hA ho hb HC
  go_wp2_with fail
  go_must (go_at_call 97)
  refine S.out.mono ?_
  clear S
  rintro e w2 ⟨rfl, ys, hp, ht, ho, hb⟩
  have Z := hidi (And.intro hp (And.intro ht (And.intro ho hb)))
  clear hp ht ho hb
  go_wp2_with fail
  go_ret
  obtain ⟨hp, ht, ho, hb⟩ := Z.out
  have hl : ys.length = (ps.map (·.2)).length := hp.length_eq
  exact ⟨v, ps, ys, rfl, HA.out, hp, ht, by rw [hl]; exact ho, HB.out.trans hb⟩
/-! ### A window's flights -/
/-- A message purely. -/
structure Mp where
  t : ByteArray
  q : Int
  r : Bool
  xs : List Int
def Ms.p (m : Ms) : Mp := ⟨m.t, m.q, m.r, m.xs⟩
/-- A flight in memory: its block, its turn. -/
structure Fm where
  b : Nat
  tn : Nat
  id : Nat
  rel : Bool
  m : Ms
structure Fp where
  id : Nat
  rel : Bool
  m : Mp
def Fm.p (f : Fm) : Fp := ⟨f.id, f.rel, f.m.p⟩
def Fm.cs (f : Fm) : Array Value := #[.int .i64 f.tn, .int .i64 (awt f.m.q f.rel), .int .i64 f.id, .string f.m.t, f.m.v, .int .i64 f.m.q, .bool f.m.r]
structure FB (w : World) (f : Fm) : Prop where
  blk : w.heap[f.b]? = some (.cells f.cs 119 (0, 0))
  pay : PB w f.m.v f.m.xs
/-- Where a number's flight is. -/
def lookF (fs : List Fm) (k : Int) : Option Nat := (fs.find? (fun f => decide ((f.id : Int) = k))).map (·.b)
theorem lookF_some {fs : List Fm} {k : Int} {b : Nat} (h : lookF fs k = some b) : ∃ f ∈ fs, (f.id : Int) = k ∧ f.b = b := by
  unfold lookF at h
  obtain ⟨f, hf, rfl⟩ := Option.map_eq_some_iff.1 h
  refine ⟨f, List.mem_of_find?_eq_some hf, ?_, rfl⟩
  simpa using List.find?_some hf
theorem lookF_mem {fs : List Fm} (hn : (fs.map (·.id)).Nodup) {f : Fm} (hf : f ∈ fs) : lookF fs (f.id : Int) = some f.b := by
  induction fs with
  | nil => cases hf
  | cons g fs ih =>
    unfold lookF
    simp only [List.find?_cons]
    by_cases e : g.id = f.id
    · simp only [e, decide_true, Option.map_some]
      rcases List.mem_cons.1 hf with rfl | q
      · rfl
      · exfalso
        simp only [List.map_cons, List.nodup_cons] at hn
        exact hn.1 (by rw [e]; exact List.mem_map.2 ⟨f, q, rfl⟩)
    · have : decide ((g.id : Int) = (f.id : Int)) = false := by simp; omega
      simp only [this]
      rcases List.mem_cons.1 hf with rfl | q
      · exact absurd rfl e
      · exact ih (by simp only [List.map_cons, List.nodup_cons] at hn; exact hn.2) q
theorem lookF_none {fs : List Fm} {k : Int} (h : ∀ f ∈ fs, (f.id : Int) ≠ k) : lookF fs k = none := by
  unfold lookF
  rw [Option.map_eq_none_iff, List.find?_eq_none]
  intro f hf
  simpa using h f hf
theorem nodup_of_map {α β : Type} (f : α → β) {l : List α} (h : (l.map f).Nodup) : l.Nodup := (List.pairwise_map.1 h).imp (fun q e => q (congrArg f e))
/-- The places in the order of their turns are the flights'. -/
theorem order_is {fs : List Fm} {ps : List (Int × Nat)} {ys : List Nat} {tn : Nat → Int} (hn : (fs.map (·.id)).Nodup) (hid : ∀ f ∈ fs, f.id ≤ 65535) (hb : (fs.map (·.b)).Nodup) (ht : ∀ f ∈ fs, tn f.b = f.tn) (hs : fs.Pairwise (fun a b => a.tn < b.tn))
    (hA : AllOf (lookF fs) ps) (hp : ys.Perm (ps.map (·.2))) (hT : ByT tn ys) : ys = fs.map (·.b) := by
  obtain ⟨h1, h2, h3⟩ := hA
  have hpe : ps.Perm (fs.map (fun f => ((f.id : Int), f.b))) := by
    refine (List.perm_ext_iff_of_nodup ?_ ?_).2 (fun x => ?_)
    · exact nodup_of_map _ h1
    · refine nodup_of_map (fun x : Int × Nat => x.2) ?_
      simpa [Function.comp_def] using hb
    · constructor
      · intro hx
        obtain ⟨f, hf, e1, e2⟩ := lookF_some (h2 x hx).2
        exact List.mem_map.2 ⟨f, hf, by rw [e1, e2]⟩
      · intro hx
        obtain ⟨f, hf, rfl⟩ := List.mem_map.1 hx
        have hk := okI_nat f.id (by have := hid f hf; omega)
        have hl := lookF_mem hn hf
        obtain ⟨y, hy, e⟩ := List.mem_map.1 (h3 _ hk (by rw [hl]; rfl))
        have h5 := (h2 y hy).2
        rw [e, hl] at h5
        have : y = ((f.id : Int), f.b) := Prod.ext e (by injection h5 with h5; exact h5.symm)
        rw [← this]
        exact hy
  have hq : ys.Perm (fs.map (·.b)) := hp.trans (by
    have := hpe.map (fun x : Int × Nat => x.2)
    simpa [Function.comp_def] using this)
  refine List.Perm.eq_of_pairwise (le := fun a b => tn a ≤ tn b) (fun a b ha hb' l1 l2 => ?_) hT ?_ hq
  · obtain ⟨f, hf, rfl⟩ := List.mem_map.1 (hq.mem_iff.1 ha)
    obtain ⟨g, hg, rfl⟩ := List.mem_map.1 hb'
    rw [ht f hf, ht g hg] at l1 l2
    have : f.tn = g.tn := by omega
    have key : ∀ (l : List Fm), l.Pairwise (fun a b => a.tn < b.tn) → f ∈ l → g ∈ l → f = g := by
      intro l hl
      induction hl with
      | nil => intro q; cases q
      | cons h1 _ ih =>
        intro q1 q2
        rcases List.mem_cons.1 q1 with e1 | e1 <;> rcases List.mem_cons.1 q2 with e2 | e2
        · rw [e1, e2]
        · have := h1 _ e2; rw [← e1] at this; omega
        · have := h1 _ e1; rw [← e2] at this; omega
        · exact ih e1 e2
    rw [key fs hs hf hg]
  · rw [List.pairwise_map]
    exact hs.imp_of_mem (fun {a b} ha hb q => by rw [ht a ha, ht b hb]; omega)
end Go.Proofs.YtmihpmmkkklpfaaGreatDoor
