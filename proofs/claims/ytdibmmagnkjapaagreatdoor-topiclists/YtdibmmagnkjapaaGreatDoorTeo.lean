import Derived.Shelf.SlSortCmp.Whole1
import Derived.Test.YtdibmmagnkjapaaGreatDoorTen
import Derived.Test.YtdibmmagnkjapaaGreatDoorTep
import Derived.Test.YtdibmmagnkjapaaGreatDoorTej
namespace Go.Proofs.YtdibmmagnkjapaaGreatDoor
open Go Go.RowKit Go.Shelf
set_option linter.unusedSimpArgs false
set_option linter.unusedVariables false

/-! ### topic.Sorted -/
/-- A text, if it is not too long. -/
def clip (x : ByteArray) : ByteArray := if x.size ≤ 300000 then x else ⟨#[]⟩
theorem clip_le (x : ByteArray) : (clip x).size ≤ 300000 := by
  unfold clip
  split
  · assumption
  · exact Nat.zero_le _
theorem clip_eq {x : ByteArray} (h : x.size ≤ 300000) : clip x = x := if_pos h
def encX (x : ByteArray) : Value := .string (clip x)
def cfX (x y : ByteArray) : Int := cmpB (clip x) (clip y)
theorem cmpB_self (a : ByteArray) : cmpB a a = 0 := by have := cmpB_flip a a; omega
theorem swoX : Go.Sort.SWO (ltOf cfX) := by
  refine ⟨fun x => by unfold ltOf cfX; rw [cmpB_self]; rfl, fun x y z h k => ?_, fun x y z h k => ?_⟩
  · skip
    unfold ltOf cfX at *
    have h' := of_decide_eq_true h
    have k' := of_decide_eq_true k
    have t := cmpB_trans (a := clip x) (b := clip y) (c := clip z) (by omega) (by omega)
    apply decide_eq_true
    by_cases e : cmpB (clip x) (clip z) = 0
    · have e' := cmpB_zero e
      rw [e'] at h'
      have := cmpB_flip (clip z) (clip y)
      omega
    · omega
  · skip
    unfold ltOf cfX at *
    have h' := of_decide_eq_false h
    have k' := of_decide_eq_false k
    have f1 := cmpB_flip (clip x) (clip y)
    have f2 := cmpB_flip (clip y) (clip z)
    have f3 := cmpB_flip (clip x) (clip z)
    have t := cmpB_trans (a := clip z) (b := clip y) (c := clip x) (by omega) (by omega)
    apply decide_eq_false
    omega
theorem map_clip {ys : List ByteArray} (h : ∀ x ∈ ys, x.size ≤ 300000) : ys.map encX = ys.map Value.string := by
  apply List.map_congr_left
  intro x hx
  unfold encX
  rw [clip_eq (h x hx)]
theorem cells_take (ys : List ByteArray) (cur : Array Value) (h : ys.length ≤ cur.size) : (Go.Sort.putCells encX 0 ys.toArray cur).toList.take ys.length = ys.map encX := by
  apply List.ext_getElem
  · simp [Go.Sort.putCells]
    omega
  · intro i h1 h2
    have hi : i < ys.length := by simpa using h2
    simp [Go.Sort.putCells, hi]
/-- What the row holds, by an order of the same texts, it owns; nothing else has changed. -/
theorem own_sorted {w : World} {B g cap m : Nat} {xs ys : List ByteArray} {os : Array Obj} (ho : w.ownsRow B 9 1 (.slice (some ⟨g, 0, none⟩) xs.length cap) xs.length (xs.map Value.string)) (hl : ys.length = xs.length) (hy : ∀ x ∈ ys, x.size ≤ 300000) :
    (sortWorld encX w g 0 m ys.toArray os).ownsRow B 9 1 (.slice (some ⟨g, 0, none⟩) xs.length cap) xs.length (ys.map Value.string) ∧ Below B w (sortWorld encX w g 0 m ys.toArray os) := by
  rcases ho with ⟨h1, ⟨h2, -⟩ | ⟨g', cap', cur, hv, hb, hg, hc1, hc2, hc3, hc4⟩⟩
  · cases h2
  simp only [Value.slice.injEq, Option.some.injEq, Addr.mk.injEq] at hv
  obtain ⟨⟨rfl, -, -⟩, -, rfl⟩ := hv
  have hgl : g < w.heap.size := (Array.getElem?_eq_some_iff.1 hg).1
  have hs : (Go.Sort.putRow encX (Go.Sort.ahead w m) g 0 ys.toArray).heap.size = w.heap.size := by simp [Go.Sort.putRow, Go.Sort.mapBlock, Go.Sort.ahead]
  refine ⟨⟨by simp [hl], .inr ⟨g, cap, Go.Sort.putCells encX 0 ys.toArray cur, rfl, hb, ?_, hc1, hc2, ?_, ?_⟩⟩, ⟨rfl, rfl, rfl, ?_, ?_⟩⟩
  · unfold sortWorld
    rw [Go.Sort.heap_grow_old _ _ (by rw [hs]; exact hgl)]
    show (w.heap.modify g _)[g]? = _
    rw [Array.getElem?_modify, if_pos rfl, hg]
    rfl
  · simpa [Go.Sort.putCells] using hc3
  · have := cells_take ys cur (by rw [hl]; omega)
    rw [map_clip hy, hl] at this
    simpa using this
  · unfold sortWorld
    rw [Go.Sort.size_grow, hs]
    omega
  · intro k hk
    unfold sortWorld
    rw [Go.Sort.heap_grow_old _ _ (by rw [hs]; omega)]
    show (w.heap.modify g _)[k]? = _
    rw [Array.getElem?_modify, if_neg (by omega)]
theorem holds_row {w : World} {B g cap : Nat} {xs : List ByteArray} (ho : w.ownsRow B 9 1 (.slice (some ⟨g, 0, none⟩) xs.length cap) xs.length (xs.map Value.string)) (hx : ∀ x ∈ xs, x.size ≤ 300000) : Go.Sort.Holds encX w g 0 xs.toArray ∧ g < w.heap.size := by
  rcases ho with ⟨h1, ⟨h2, -⟩ | ⟨g', cap', cur, hv, hb, hg, hc1, hc2, hc3, hc4⟩⟩
  · cases h2
  simp only [Value.slice.injEq, Option.some.injEq, Addr.mk.injEq] at hv
  obtain ⟨⟨rfl, -, -⟩, -, rfl⟩ := hv
  refine ⟨fun j hj => ?_, (Array.getElem?_eq_some_iff.1 hg).1⟩
  have hj' : j < xs.length := by simpa using hj
  have e1 : xs.toArray[j]! = xs[j] := by simp [hj']
  have e2 : encX xs[j] = Value.string xs[j] := by unfold encX; rw [clip_eq (hx _ (List.getElem_mem hj'))]
  have e3 : cur[j]? = some (Value.string xs[j]) := by
    have := congrArg (fun l => l[j]?) hc4
    simp only [Nat.mul_one, List.getElem?_take, if_pos hj', List.getElem?_map, List.getElem?_eq_getElem hj', Option.map_some] at this
    simpa using this
  rw [e1, e2, Nat.zero_add]
  refine ⟨?_, ?_⟩
  · simp [World.cell?, hg, e3]
  · simp [World.frozen?, hg]
set_option maxRecDepth 100000 in
set_option maxHeartbeats 2000000 in
theorem ins_none (p : Option Addr) (cap : Nat) (fv : Value) (w : World) : Calls Tryz.prog 166 #[.slice p 0 cap, .int .i64 0, .int .i64 0, fv] w fun e w' => e = .returned (.tuple #[]) ∧ w' = w := by
  go_enter Tryz.func166, Tryz.ntmps166
  go_wp2
  refine wp_loop_rounds 1 ?_
  rw [rounds_succ]
  go_wp2
  go_end0
  exact ⟨rfl, rfl⟩
set_option maxRecDepth 100000 in
set_option maxHeartbeats 2000000 in
theorem pdq_none (p : Option Addr) (cap : Nat) (lim : Int) (fv : Value) (w : World) : Calls Tryz.prog 153 #[.slice p 0 cap, .int .i64 0, .int .i64 0, .int .i64 lim, fv] w fun e w' => e = .returned (.tuple #[]) ∧ w' = w := by
  go_enter Tryz.func153, Tryz.ntmps153
  go_wp2
  refine wp_loop_rounds 1 ?_
  rw [rounds_succ]
  go_wp2_with (go_at_call 166; refine (ins_none _ _ _ _).mono ?_; rintro e w' ⟨rfl, rfl⟩)
  (try simp only [Exit.inBlock, Exit.then]); refine bodyPost_ret (results_none rfl _ _ _) rfl ?_
  exact ⟨rfl, rfl⟩
theorem len_none (w : World) : Calls Tryz.prog 154 #[.int .u64 0] w fun e w' => e = .returned (.int .i64 (Lib.bitLen 0 : Nat)) ∧ w' = w :=
  Any.bits_Len (SlLaysF0.n15.bits (P := Tryz.prog) (ρ := Tryz.sfl_ren) { Tryz.sfl with }) 0 w (by omega) (by omega)
set_option maxHeartbeats 2000000 in
theorem sort_none (p : Option Addr) (cap : Nat) (fv : Value) (w : World) : Calls Tryz.prog 100 #[.slice p 0 cap, fv] w fun e w' => e = .returned (.tuple #[]) ∧ w' = w := by
  have hl := len_none w
  go_enter Tryz.func100, Tryz.ntmps100
  go_wp2_with (first | (go_at_call 154; refine hl.mono ?_; rintro e w' ⟨rfl, rfl⟩) | (go_at_call 153; refine (pdq_none _ _ _ _ _).mono ?_; rintro e w' ⟨rfl, rfl⟩))
  go_end0
  exact ⟨rfl, rfl⟩
theorem sortfunc_any (xs : List ByteArray) (v : Value) (w : World) (B : Nat) (ho : w.ownsRow B 9 1 v xs.length (xs.map Value.string)) (hx : ∀ x ∈ xs, x.size ≤ 300000) (hl : xs.length ≤ 1000000) :
    Calls Tryz.prog 100 #[v, .func (.func 53) #[] #[]] w fun e w' => e = .returned (.tuple #[]) ∧ w'.ownsRow B 9 1 v xs.length ((isort xs).map Value.string) ∧ Below B w w' := by
  by_cases h0 : xs = []
  · subst h0
    obtain ⟨a, c, rfl⟩ : ∃ a c, v = .slice a 0 c := by
      rcases ho with ⟨-, ⟨h2, -⟩ | ⟨g', cap', cur, hv, -⟩⟩
      · exact ⟨_, _, h2⟩
      · exact ⟨_, _, hv⟩
    refine (sort_none a c (.func (.func 53) #[] #[]) w).mono ?_
    rintro e w' ⟨rfl, rfl⟩
    exact ⟨rfl, ho, Below.refl _ _⟩
  · have hp : 0 < xs.length := List.length_pos_iff.2 h0
    obtain ⟨g, c, rfl⟩ : ∃ g c, v = .slice (some ⟨g, 0, none⟩) xs.length c := by
      rcases ho with ⟨-, ⟨-, h2⟩ | ⟨g', cap', cur, hv, -⟩⟩
      · omega
      · exact ⟨_, _, hv⟩
    obtain ⟨hH, hg⟩ := holds_row ho hx
    have h := Any.slices_SortFunc (P := Tryz.prog) (ρ := Tryz.sfl_ren) Tryz.sfl encX (fun _ => rfl) cfX swoX 53 #[] g 0 c xs.toArray w (enters_of Tryz.func53 (by kernel_rfl) rfl)
      (fun m os dk hs x y => (compare_dr (clip x) (clip y) (by have := clip_le x; omega) (by have := clip_le y; omega) _).mono fun e w' ⟨he, q, hq⟩ => ⟨he, q, #[], by rw [hq, Go.Sort.grow_empty]⟩)
      hH hg (by simp; omega)
    have e1 : xs.toArray.size = xs.length := by simp
    rw [e1] at h
    refine Calls.mono (f := 100) h ?_
    rintro e w' ⟨rfl, d', n, os, ⟨hsz, -, hperm⟩, hS, rfl⟩
    have e2 : d'.extract 0 xs.length = d' := by rw [← e1, ← hsz]; exact Array.extract_size
    have e3 : xs.toArray.extract 0 xs.length = xs.toArray := by rw [← e1]; exact Array.extract_size
    rw [e2, e3] at hperm
    have hperm' : d'.toList.Perm xs := by simpa using hperm
    have hle : ∀ x ∈ d'.toList, x.size ≤ 300000 := fun x hx' => hx x (hperm'.mem_iff.1 hx')
    have hd : d'.size = xs.length := by rw [hsz, e1]
    have hSd : Sd d'.toList := by
      unfold Sd
      rw [List.pairwise_iff_getElem]
      intro i j hi hj hij
      have hi' : i < d'.size := by simpa using hi
      have hj' : j < d'.size := by simpa using hj
      have := hS i j (Nat.zero_le _) hij (by omega)
      rw [getElem!_pos d' j hj', getElem!_pos d' i hi'] at this
      unfold ltOf cfX at this
      have h1 := of_decide_eq_false this
      rw [clip_eq (hle _ (by simp)), clip_eq (hle _ (by simp))] at h1
      have := cmpB_flip d'[i] d'[j]
      simp only [Array.getElem_toList]
      omega
    have hi := isort_of hperm' hSd
    have := own_sorted (m := n) (os := os) (ys := d'.toList) ho (by simp [hd]) hle
    rw [← hi]
    exact ⟨rfl, this⟩
theorem own_base {w : World} {B B' e n : Nat} {v : Value} {xs : List Value} (h : w.ownsRow B e 1 v n xs) (hb : B' ≤ B) : w.ownsRow B' e 1 v n xs := by
  rcases h with ⟨h1, h2 | ⟨g, cap, cur, hv, hbg, rest⟩⟩
  · exact ⟨h1, .inl h2⟩
  · exact ⟨h1, .inr ⟨g, cap, cur, hv, Nat.le_trans hb hbg, rest⟩⟩
set_option maxHeartbeats 1000000 in
theorem sortedfunc_any (xs : List ByteArray) (v0 : Value) (w : World) (Bs : Nat) (R : Row w v0 xs) (hx : ∀ x ∈ xs, x.size ≤ 300000) (hl : xs.length ≤ 1000000) (hbs : w.cell? ⟨Bs, 0, none⟩ = some v0) (hlt : Bs < w.heap.size) :
    Calls Tryz.prog 51 #[.func (.func 101) #[] #[.pointer (some ⟨Bs, 0, none⟩)], .func (.func 53) #[] #[]] w fun e w' => ∃ v, e = .returned v ∧ w'.ownsRow w.heap.size 9 1 v xs.length ((isort xs).map Value.string) ∧ Below w.heap.size w w' := by
  have A := collect_any xs v0 w Bs R hl hbs hlt
  have S := fun v w' h => sortfunc_any xs v w' w.heap.size h hx hl
  clear R hl hbs hlt hx
  go_enter Tryz.func51, Tryz.ntmps51
  go_wp2_with (first | (go_at_call 99; refine A.mono ?_; clear A; rintro e w1 ⟨v, rfl, ho, hb⟩; have S1 := S v w1 ho; clear S) | (go_at_call 100; refine S1.mono ?_; clear S1; rintro e w2 ⟨rfl, ho2, hb2⟩))
  go_ret
  exact ⟨v, rfl, ho2, hb.trans hb2⟩
set_option maxHeartbeats 1000000 in
theorem srtOk : SrtOk := by
  intro xs v w R hl hx
  have R0 := R
  obtain ⟨a, n, cap, rfl, -, -, -⟩ := R0
  have hB : Below w.heap.size w (w.alloc (.cells #[.slice a n cap] 22)) := (Below.refl _ _).alloc (Nat.le_refl _) _
  have A := sortedfunc_any xs (.slice a n cap) (w.alloc (.cells #[.slice a n cap] 22)) w.heap.size (R.later hB) hx (by omega) (by simp) (by simp)
  have V := vals_any a n cap w
  clear R hl hx
  go_enter Tryz.func19, Tryz.ntmps19
  go_wp2_with (first | (go_at_call 52; refine V.mono ?_; clear V; rintro e w1 ⟨rfl, rfl⟩) | (go_at_call 51; refine A.mono ?_; clear A; rintro e w2 ⟨v, rfl, ho, hb⟩))
  go_ret
  exact ⟨v, rfl, own_base ho (by simp), hB.trans (hb.mono (by simp))⟩
end Go.Proofs.YtdibmmagnkjapaaGreatDoor
