import Derived.Test.YtipagdhoeocjeaaGreatKpc
import Derived.Test.YtipagdhoeocjeaaGreatSrts
import Derived.Shelf.SlSortCmp.Whole1
import Derived.RangeFuncBox
import Derived.RangeFuncNested
import Derived.RangeFuncLeaves
import Derived.RangeFuncCalls
import Derived.OwnWalkIn
import Derived.TacticsInMore
import Derived.LoopNIn
import Derived.LoopIn
import Derived.RegionIn
import Derived.Deep.RegionHeld
import Derived.Deep.RegionHeldLaw
import Derived.Test.YtipagdhoeocjeaaGreatCc
namespace Go.Proofs.YtipagdhoeocjeaaGreat.Li
open Go Go.RowKit Go.Shelf
set_option linter.unusedSimpArgs false
set_option linter.unusedVariables false
/-! ### the order of texts, byte by byte -/
theorem cb_self : ∀ a : List UInt8, Lib.compareBytes a a = 0
  | [] => rfl
  | x :: a => by
    unfold Lib.compareBytes
    rw [if_neg (UInt8.lt_irrefl x), if_neg (UInt8.lt_irrefl x)]
    exact cb_self a
theorem cb_lt : ∀ a b : List UInt8, Lib.compareBytes a b < 0 ↔ ltL a b = true
  | [], [] => by simp [Lib.compareBytes, ltL]
  | [], _ :: _ => by simp [Lib.compareBytes, ltL]
  | _ :: _, [] => by simp [Lib.compareBytes, ltL]
  | x :: a, y :: b => by
    have ih := cb_lt a b
    unfold Lib.compareBytes ltL
    by_cases e : x = y
    · subst e
      rw [if_neg (UInt8.lt_irrefl x), if_neg (UInt8.lt_irrefl x), if_pos rfl]
      exact ih
    · rw [if_neg e]
      have ne : x.toNat ≠ y.toNat := fun h => e (UInt8.toNat_inj.1 h)
      by_cases h : x < y
      · rw [if_pos h]
        have := UInt8.lt_iff_toNat_lt.1 h
        simp [this]
      · have h' : ¬ x.toNat < y.toNat := fun c => h (UInt8.lt_iff_toNat_lt.2 c)
        rw [if_neg h]
        have h2 : y < x := UInt8.lt_iff_toNat_lt.2 (by omega)
        rw [if_pos h2]
        simp [h']
theorem ltL_irr : ∀ a : List UInt8, ltL a a = false
  | [] => rfl
  | x :: a => by unfold ltL; rw [if_pos rfl]; exact ltL_irr a
theorem ltL_trans : ∀ a b c : List UInt8, ltL a b = true → ltL b c = true → ltL a c = true
  | a, b, [], h1, h2 => by cases b <;> simp [ltL] at h2
  | [], b, _ :: _, h1, h2 => by simp [ltL]
  | x :: a, [], z :: c, h1, h2 => by simp [ltL] at h1
  | x :: a, y :: b, z :: c, h1, h2 => by
    unfold ltL at *
    by_cases e : x = y
    · subst e
      rw [if_pos rfl] at h1
      by_cases e2 : x = z
      · rw [if_pos e2] at h2 ⊢
        exact ltL_trans a b c h1 h2
      · rw [if_neg e2] at h2 ⊢
        exact h2
    · rw [if_neg e] at h1
      have n1 := of_decide_eq_true h1
      by_cases e2 : y = z
      · subst e2
        rw [if_neg e]
        exact h1
      · rw [if_neg e2] at h2
        have n2 := of_decide_eq_true h2
        have e3 : ¬ x = z := fun h => by subst h; omega
        rw [if_neg e3]
        exact decide_eq_true (by omega)
theorem ltL_tri : ∀ a b : List UInt8, ltL a b = true ∨ a = b ∨ ltL b a = true
  | [], [] => by simp
  | [], _ :: _ => by simp [ltL]
  | _ :: _, [] => by simp [ltL]
  | x :: a, y :: b => by
    unfold ltL
    by_cases e : x = y
    · subst e
      rw [if_pos rfl, if_pos rfl]
      rcases ltL_tri a b with h | h | h
      · exact .inl h
      · exact .inr (.inl (by rw [h]))
      · exact .inr (.inr h)
    · have e' : ¬ y = x := fun h => e h.symm
      rw [if_neg e, if_neg e']
      have ne : x.toNat ≠ y.toNat := fun h => e (UInt8.toNat_inj.1 h)
      by_cases h : x.toNat < y.toNat
      · exact .inl (decide_eq_true h)
      · exact .inr (.inr (decide_eq_true (by omega)))
/-! ### the nodes right below a node, in order -/
/-- A node right below f. -/
abbrev Kd (T : List Fn) (f : Fn) := {q : Fn // q ∈ T ∧ Kid f.s q.s}
/-- The first level of the edge to a node. -/
def fl (q : Fn) : ByteArray := q.s.edge.headD ⟨#[]⟩
def lt1 (a b : Fn) : Prop := ltL (unB (fl a)) (unB (fl b)) = true
def enc {T : List Fn} {f : Fn} (q : Kd T f) : Value := ptr q.1.s.p
def cf {T : List Fn} {f : Fn} (a b : Kd T f) : Int := Lib.compareBytes (fl a.1).data.toList (fl b.1).data.toList
theorem swo {T : List Fn} {f : Fn} : Go.Sort.SWO (ltOf (cf (T := T) (f := f))) := by
  have k : ∀ a b : Kd T f, ltOf cf a b = ltL (fl a.1).data.toList (fl b.1).data.toList := fun a b => by
    unfold ltOf cf
    cases h : ltL (fl a.1).data.toList (fl b.1).data.toList with
    | true => exact decide_eq_true ((cb_lt _ _).2 h)
    | false => exact decide_eq_false (fun c => by have := (cb_lt _ _).1 c; rw [h] at this; cases this)
  refine ⟨fun x => by rw [k]; exact ltL_irr _, fun x y z h1 h2 => ?_, fun x y z h1 h2 => ?_⟩
  · rw [k] at *
    exact ltL_trans _ _ _ h1 h2
  · rw [k] at *
    cases h : ltL (fl x.1).data.toList (fl z.1).data.toList with
    | false => rfl
    | true =>
      rcases ltL_tri (fl y.1).data.toList (fl x.1).data.toList with c | c | c
      · rw [ltL_trans _ _ _ c h] at h2; cases h2
      · rw [c, h] at h2; cases h2
      · rw [c] at h1; cases h1
section
variable {w : World} {tb r : Nat} {nf nn : Int} {T : List Fn} {f : Fn}
theorem fl_edge (h : Inv (T.map Fn.s)) {q : Fn} (hq : q ∈ T) (hm : 0 < q.s.m) : ∃ rr, q.s.edge = fl q :: rr := by
  have := edge_len q.s (h.le q.s (List.mem_map_of_mem hq)).1
  unfold fl
  cases c : q.s.edge with
  | nil => rw [c] at this; simp at this; omega
  | cons a l => exact ⟨l, rfl⟩
theorem fl_at (h : Inv (T.map Fn.s)) {q : Fn} (hq : q ∈ T) (hm : 0 < q.s.m) : q.s.A[q.s.top]? = some (fl q) := by
  obtain ⟨rr, e⟩ := fl_edge h hq hm
  have := edge_at q.s 0
  rw [e] at this
  simpa using this.symm
/-- All nodes right below f, in order. -/
structure KidsOrd (T : List Fn) (f : Fn) (K : List Fn) : Prop where
  all : ∀ q, q ∈ K ↔ q ∈ T ∧ Kid f.s q.s
  ord : K.Pairwise lt1
  len : K.length ≤ T.length
theorem cells_take {α : Type} {en : α → Value} [Inhabited α] (ys : List α) (cur : Array Value) (h : ys.length ≤ cur.size) : (Go.Sort.putCells en 0 ys.toArray cur).toList.take ys.length = ys.map en := by
  apply List.ext_getElem
  · simp [Go.Sort.putCells]
    omega
  · intro i h1 h2
    have hi : i < ys.length := by simpa using h2
    simp [Go.Sort.putCells, hi]
theorem own_sorted {α : Type} {en : α → Value} [Inhabited α] {w : World} {B e g cap m : Nat} {xs ys : List α} {os : Array Obj} (ho : w.ownsRow B e 1 (.slice (some ⟨g, 0, none⟩) xs.length cap) xs.length (xs.map en)) (hl : ys.length = xs.length) :
    (sortWorld en w g 0 m ys.toArray os).ownsRow B e 1 (.slice (some ⟨g, 0, none⟩) xs.length cap) xs.length (ys.map en) ∧ Below B w (sortWorld en w g 0 m ys.toArray os) := by
  rcases ho with ⟨h1, ⟨h2, -⟩ | ⟨g', cap', cur, hv, hb, hg, hc1, hc2, hc3, hc4⟩⟩
  · cases h2
  simp only [Value.slice.injEq, Option.some.injEq, Addr.mk.injEq] at hv
  obtain ⟨⟨rfl, -, -⟩, -, rfl⟩ := hv
  have hgl : g < w.heap.size := (Array.getElem?_eq_some_iff.1 hg).1
  have hs : (Go.Sort.putRow en (Go.Sort.ahead w m) g 0 ys.toArray).heap.size = w.heap.size := by simp [Go.Sort.putRow, Go.Sort.mapBlock, Go.Sort.ahead]
  refine ⟨⟨by simp [hl], .inr ⟨g, cap, Go.Sort.putCells en 0 ys.toArray cur, rfl, hb, ?_, hc1, hc2, ?_, ?_⟩⟩, ⟨rfl, rfl, rfl, ?_, ?_⟩⟩
  · unfold sortWorld
    rw [Go.Sort.heap_grow_old _ _ (by rw [hs]; exact hgl)]
    show (w.heap.modify g _)[g]? = _
    rw [Array.getElem?_modify, if_pos rfl, hg]
    rfl
  · simpa [Go.Sort.putCells] using hc3
  · have := cells_take (en := en) ys cur (by rw [hl]; omega)
    rw [hl] at this
    simpa using this
  · unfold sortWorld
    rw [Go.Sort.size_grow, hs]
    omega
  · intro k hk
    unfold sortWorld
    rw [Go.Sort.heap_grow_old _ _ (by rw [hs]; omega)]
    show (w.heap.modify g _)[k]? = _
    rw [Array.getElem?_modify, if_neg (by omega)]
theorem sort_other {α : Type} {en : α → Value} [Inhabited α] {w : World} {g m k : Nat} {dk : Array α} {os : Array Obj} (hk : k < w.heap.size) (hn : k ≠ g) : (sortWorld en w g 0 m dk os).heap[k]? = w.heap[k]? := by
  have hs : (Go.Sort.putRow en (Go.Sort.ahead w m) g 0 dk).heap.size = w.heap.size := by simp [Go.Sort.putRow, Go.Sort.mapBlock, Go.Sort.ahead]
  unfold sortWorld
  rw [Go.Sort.heap_grow_old _ _ (by rw [hs]; omega)]
  show (w.heap.modify g _)[k]? = _
  rw [Array.getElem?_modify, if_neg (fun e => hn e.symm)]
theorem holds_row {α : Type} {en : α → Value} [Inhabited α] {w : World} {B e g cap : Nat} {xs : List α} (ho : w.ownsRow B e 1 (.slice (some ⟨g, 0, none⟩) xs.length cap) xs.length (xs.map en)) : Go.Sort.Holds en w g 0 xs.toArray ∧ g < w.heap.size := by
  rcases ho with ⟨h1, ⟨h2, -⟩ | ⟨g', cap', cur, hv, hb, hg, hc1, hc2, hc3, hc4⟩⟩
  · cases h2
  simp only [Value.slice.injEq, Option.some.injEq, Addr.mk.injEq] at hv
  obtain ⟨⟨rfl, -, -⟩, -, rfl⟩ := hv
  refine ⟨fun j hj => ?_, (Array.getElem?_eq_some_iff.1 hg).1⟩
  have hj' : j < xs.length := by simpa using hj
  have e1 : xs.toArray[j]! = xs[j] := by simp [hj']
  have e3 : cur[j]? = some (en xs[j]) := by
    have := congrArg (fun l => l[j]?) hc4
    simp only [Nat.mul_one, List.getElem?_take, if_pos hj', List.getElem?_map, List.getElem?_eq_getElem hj', Option.map_some] at this
    simpa using this
  rw [e1, Nat.zero_add]
  refine ⟨?_, ?_⟩
  · simp [World.cell?, hg, e3]
  · simp [World.frozen?, hg]
set_option maxRecDepth 100000 in
set_option maxHeartbeats 2000000 in
theorem ins_none (p : Option Addr) (cap : Nat) (fv : Value) (w : World) : Calls Tryz.prog 99 #[.slice p 0 cap, .int .i64 0, .int .i64 0, fv] w fun e w' => e = .returned (.tuple #[]) ∧ w' = w := by
  go_enter Tryz.func99, Tryz.ntmps99
  go_wp2
  refine wp_loop_rounds 1 ?_
  rw [rounds_succ]
  go_wp2
  go_end0
  exact ⟨rfl, rfl⟩
set_option maxRecDepth 100000 in
set_option maxHeartbeats 2000000 in
theorem pdq_none (p : Option Addr) (cap : Nat) (lim : Int) (fv : Value) (w : World) : Calls Tryz.prog 94 #[.slice p 0 cap, .int .i64 0, .int .i64 0, .int .i64 lim, fv] w fun e w' => e = .returned (.tuple #[]) ∧ w' = w := by
  go_enter Tryz.func94, Tryz.ntmps94
  go_wp2
  refine wp_loop_rounds 1 ?_
  rw [rounds_succ]
  go_wp2_with (go_at_call 99; refine (ins_none _ _ _ _).mono ?_; rintro e w' ⟨rfl, rfl⟩)
  (try simp only [Exit.inBlock, Exit.then]); refine bodyPost_ret (results_none rfl _ _ _) rfl ?_
  exact ⟨rfl, rfl⟩
set_option maxHeartbeats 2000000 in
theorem sort_none (p : Option Addr) (cap : Nat) (fv : Value) (w : World) : Calls Tryz.prog 83 #[.slice p 0 cap, fv] w fun e w' => e = .returned (.tuple #[]) ∧ w' = w := by
  have hl := Tryz.bits_Len 0 w (by omega) (by omega)
  go_enter Tryz.func83, Tryz.ntmps83
  go_wp2_with (first | (go_at_call 95; refine hl.mono ?_; rintro e w' ⟨rfl, rfl⟩) | (go_at_call 94; refine (pdq_none _ _ _ _ _).mono ?_; rintro e w' ⟨rfl, rfl⟩))
  go_end0
  exact ⟨rfl, rfl⟩
end
end Go.Proofs.YtipagdhoeocjeaaGreat.Li
namespace Go.Proofs.YtipagdhoeocjeaaGreat.Li
open Go Go.RowKit Go.Shelf
set_option linter.unusedSimpArgs false
set_option linter.unusedVariables false
variable {w : World} {tb r : Nat} {nf nn : Int} {T : List Fn} {f : Fn}
/-- A node's levels, as far as its first one. -/
theorem fl_cells (h : TM w tb r nf nn T) {q : Fn} (hq : q ∈ T) (hm : 0 < q.s.m) : ∃ g c, w.heap[q.s.p]? = some (.cells #[.slice (some ⟨g, 0, none⟩) q.s.m c, q.ev, q.kv] 75 (0, 0)) ∧ w.cell? ⟨g, 0, none⟩ = some (.string (fl q)) ∧ (∃ cur, w.heap[g]? = some (.cells cur 9 (0, 0))) := by
  have fd := h.nd q hq
  obtain ⟨rr, e⟩ := fl_edge h.inv hq hm
  have R := fd.lv
  rcases R.2 with ⟨_, e0⟩ | ⟨g, cap, cur, hv, _, hg, _⟩
  · omega
  have a := fd.at_
  rw [hv] at a
  refine ⟨g, cap, a, ?_, cur, hg⟩
  rw [e] at R
  obtain ⟨g0, o, n', cap', e1, _, _, _, c0, _⟩ := (row_own R).cons
  rw [hv] at e1
  simp only [Value.slice.injEq, Option.some.injEq, Addr.mk.injEq] at e1
  obtain ⟨⟨rfl, rfl, -⟩, -⟩ := e1
  exact c0
set_option maxRecDepth 100000 in
set_option maxHeartbeats 2000000 in
theorem first_any {W : World} {a b ga gb ma mb ca cb : Nat} {ea ka eb kb : Value} {x y : ByteArray} (ha : W.heap[a]? = some (.cells #[.slice (some ⟨ga, 0, none⟩) ma ca, ea, ka] 75 (0, 0))) (hb : W.heap[b]? = some (.cells #[.slice (some ⟨gb, 0, none⟩) mb cb, eb, kb] 75 (0, 0))) (xa : W.cell? ⟨ga, 0, none⟩ = some (.string x)) (xb : W.cell? ⟨gb, 0, none⟩ = some (.string y)) (pa : 0 < ma) (pb : 0 < mb) :
    Calls Tryz.prog 73 #[ptr a, ptr b] W fun e w' => e = .returned (.int .i64 (Lib.compareBytes x.data.toList y.data.toList)) ∧ ∃ q, w' = W.drewN q := by
  have a0 := box_cells ha 0 _ rfl
  have b0 := box_cells hb 0 _ rfl
  have pa' : (0 : Int) < ma := by omega
  have pb' : (0 : Int) < mb := by omega
  have CB := hidi (fun w => Tryz.strings_Compare x y w)
  unfold ptr
  clear ha hb pa pb
  go_enter Tryz.func73, Tryz.ntmps73
  go_wp2_with fail
  go_quiet ((go_at_call 85; exact Calls.quiet_of_same (CB.out _)))
  go_wp2_with fail
  go_ret
  exact ⟨rfl, _, rfl⟩
set_option maxHeartbeats 2000000 in
/-- slices.SortFunc of nodes right below f. -/
theorem sortfunc_any {B : Nat} {v : Value} (xs : List (Kd T f)) (h : TM w tb r nf nn T) (ho : w.ownsRow B 60 1 v xs.length (xs.map enc)) (hd : (xs.map fun q => fl q.1).Nodup) (hall : ∀ q : Kd T f, q ∈ xs) (hl : xs.length ≤ T.length) (hT : T.length ≤ 1000000) :
    Calls Tryz.prog 83 #[v, .func (.func 73) #[] #[]] w fun e w' => e = .returned (.tuple #[]) ∧ ∃ ys : List (Kd T f), w'.ownsRow B 60 1 v ys.length (ys.map enc) ∧ KidsOrd T f (ys.map (·.1)) ∧ Below B w w' := by
  by_cases h0 : xs = []
  · subst h0
    obtain ⟨a, c, rfl⟩ := own_sl ho
    refine (sort_none a c (.func (.func 73) #[] #[]) w).mono ?_
    rintro e w' ⟨rfl, rfl⟩
    refine ⟨rfl, [], ho, ⟨fun q => ⟨fun c => by simp at c, fun c => ?_⟩, List.Pairwise.nil, Nat.zero_le _⟩, Below.refl _ _⟩
    have := hall ⟨q, c⟩
    simp at this
  · have hp : 0 < xs.length := List.length_pos_iff.2 h0
    obtain ⟨x0, hx0⟩ : ∃ x0 : Kd T f, x0 ∈ xs := List.exists_mem_of_length_pos hp
    haveI : Inhabited (Kd T f) := ⟨x0⟩
    obtain ⟨g, c, rfl⟩ : ∃ g c, v = .slice (some ⟨g, 0, none⟩) xs.length c := by
      rcases ho with ⟨-, ⟨-, h2⟩ | ⟨g', cap', cur, hv, -⟩⟩
      · omega
      · exact ⟨_, _, hv⟩
    obtain ⟨hH, hg⟩ := holds_row ho
    obtain ⟨gcur, hgc⟩ := own_lt ho rfl
    have CM : ∀ (m : Nat) (os : Array Obj) (dk : Array (Kd T f)) (x y : Kd T f), Calls Tryz.prog 73 #[ptr x.1.s.p, ptr y.1.s.p] (sortWorld enc w g 0 m dk os) fun e w' => e = .returned (.int .i64 (cf x y)) ∧ ∃ q, w' = (sortWorld enc w g 0 m dk os).drewN q := fun m os dk x y => by
      obtain ⟨ga, ca, a1, a2, cua, a3⟩ := fl_cells h x.2.1 x.2.2.1
      obtain ⟨gb, cb, b1, b2, cub, b3⟩ := fl_cells h y.2.1 y.2.2.1
      have st : ∀ (k t : Nat) (cs : Array Value), t ≠ 60 → w.heap[k]? = some (.cells cs t (0, 0)) → (sortWorld enc w g 0 m dk os).heap[k]? = w.heap[k]? := fun k t cs ht hk => sort_other (Array.getElem?_eq_some_iff.1 hk).1 (fun e => by
        rw [e, hgc] at hk
        simp at hk
        exact ht hk.2.symm)
      refine first_any ((st _ _ _ (by decide) a1).trans a1) ((st _ _ _ (by decide) b1).trans b1) ?_ ?_ x.2.2.1 y.2.2.1
      · rw [cell_heap (st _ _ _ (by decide) a3)]; exact a2
      · rw [cell_heap (st _ _ _ (by decide) b3)]; exact b2
    have hs := Any.slices_SortFunc (P := Tryz.prog) (ρ := Tryz.sfl_ren) Tryz.sfl (enc (T := T) (f := f)) (fun _ => rfl) cf swo 73 #[] g 0 c xs.toArray w (enters_of Tryz.func73 (by kernel_rfl) rfl)
      (fun m os dk hs x y => (CM m os dk x y).mono fun e w' ⟨he, q, hq⟩ => ⟨he, q, #[], by rw [hq, Go.Sort.grow_empty]⟩)
      hH hg (by simp; omega)
    have e1 : xs.toArray.size = xs.length := by simp
    rw [e1] at hs
    refine Calls.mono (f := 83) hs ?_
    rintro e w' ⟨rfl, d', n, os, ⟨hsz, -, hperm⟩, hS, rfl⟩
    have e2 : d'.extract 0 xs.length = d' := by rw [← e1, ← hsz]; exact Array.extract_size
    have e3 : xs.toArray.extract 0 xs.length = xs.toArray := by rw [← e1]; exact Array.extract_size
    rw [e2, e3] at hperm
    have hperm' : d'.toList.Perm xs := by simpa using hperm
    have hd2 : d'.toList.length = xs.length := hperm'.length_eq
    obtain ⟨o1, o2⟩ := own_sorted (en := enc) (m := n) (os := os) (ys := d'.toList) ho hd2
    have ea : d'.toList.toArray = d' := by simp
    rw [ea] at o1 o2
    refine ⟨rfl, d'.toList, by rw [hd2]; exact o1, ⟨fun q => ?_, ?_, by rw [List.length_map, hd2]; exact hl⟩, o2⟩
    · constructor
      · intro c
        obtain ⟨a, _, rfl⟩ := List.mem_map.1 c
        exact a.2
      · intro c
        exact List.mem_map.2 ⟨⟨q, c⟩, hperm'.mem_iff.2 (hall _), rfl⟩
    · have nd : (d'.toList.map fun q => fl q.1).Nodup := (hperm'.map _).nodup_iff.2 hd
      rw [List.pairwise_map, List.pairwise_iff_getElem]
      intro i j hi hj hij
      have hi' : i < d'.size := by simpa using hi
      have hj' : j < d'.size := by simpa using hj
      have := hS i j (Nat.zero_le _) hij (by omega)
      rw [getElem!_pos d' j hj', getElem!_pos d' i hi'] at this
      unfold ltOf cf at this
      have h1 := of_decide_eq_false this
      unfold lt1
      simp only [Array.getElem_toList]
      rcases ltL_tri (unB (fl d'[i].1)) (unB (fl d'[j].1)) with c | c | c
      · exact c
      · have e : fl d'[i].1 = fl d'[j].1 := ba_list_inj c
        have n2 := List.pairwise_iff_getElem.1 nd i j (by simpa using hi') (by simpa using hj') hij
        exact absurd (by simpa using e) n2
      · exact absurd ((cb_lt _ _).2 c) h1
end Go.Proofs.YtipagdhoeocjeaaGreat.Li
namespace Go.Proofs.YtipagdhoeocjeaaGreat.Li
open Go Go.RowKit Go.Shelf
set_option linter.unusedSimpArgs false
set_option linter.unusedVariables false
attribute [local go_sem] Oper.semAt_some
variable {w : World} {tb r : Nat} {nf nn : Int} {T : List Fn} {f : Fn}
theorem pick_list {α β : Type} {P : α → β → Prop} : ∀ (L : List α), (∀ x ∈ L, ∃ q, P x q) → ∃ K : List β, K.length = L.length ∧ ∀ (i : Nat) (x : α), L[i]? = some x → ∃ q, K[i]? = some q ∧ P x q
  | [], _ => ⟨[], rfl, fun i x h => by simp at h⟩
  | a :: L, h => by
    obtain ⟨q, hq⟩ := h a List.mem_cons_self
    obtain ⟨K, k1, k2⟩ := pick_list L (fun x hx => h x (List.mem_cons_of_mem _ hx))
    refine ⟨q :: K, by simp [k1], fun i x hi => ?_⟩
    cases i with
    | zero => simp at hi; subst hi; exact ⟨q, rfl, hq⟩
    | succ i => exact k2 i x (by simpa using hi)
/-- The kids that a map's keys stand for. -/
theorem kids_pick (h : TM w tb r nf nn T) (hf : f ∈ T) {kd : ByteArray → Option Value} {ys : List ByteArray} (vs : Vs kd ys) (hk : Kds (T.map Fn.s) f.s kd) :
    ∃ xs : List (Kd T f), xs.length = ys.length ∧ ys.map (kv1 kd) = xs.map enc ∧ (xs.map fun q => fl q.1) = ys ∧ ∀ q : Kd T f, q ∈ xs := by
  have each : ∀ x ∈ ys, ∃ q : Kd T f, AtK (T.map Fn.s) f.s x q.1.s ∧ kd x = some (ptr q.1.s.p) := fun x hx => by
    obtain ⟨ox, hs⟩ := (vs.mem x).1 hx
    obtain ⟨v, hv⟩ := Option.isSome_iff_exists.1 hs
    obtain ⟨e, he, rfl⟩ := (hk x v ox).1 hv
    obtain ⟨q, hq, rfl⟩ := List.mem_map.1 he.1
    exact ⟨⟨q, hq, he.2.1⟩, he, hv⟩
  obtain ⟨K, k1, k2⟩ := pick_list ys each
  refine ⟨K, k1, ?_, ?_, fun q => ?_⟩
  · apply List.ext_getElem?
    intro i
    rw [List.getElem?_map, List.getElem?_map]
    cases e : ys[i]? with
    | none =>
      have : K[i]? = none := by rw [List.getElem?_eq_none_iff] at e ⊢; omega
      rw [this]; rfl
    | some x =>
      obtain ⟨q, a, _, c⟩ := k2 i x e
      rw [a]
      show some (kv1 kd x) = some (enc q)
      unfold kv1
      rw [c]
      rfl
  · apply List.ext_getElem?
    intro i
    rw [List.getElem?_map]
    cases e : ys[i]? with
    | none =>
      have : K[i]? = none := by rw [List.getElem?_eq_none_iff] at e ⊢; omega
      rw [this]; rfl
    | some x =>
      obtain ⟨q, a, b, _⟩ := k2 i x e
      rw [a]
      have := fl_at h.inv q.2.1 q.2.2.1
      have b3 : q.1.s.A[q.1.s.top]? = some x := b.2.2
      rw [b3] at this
      show some (fl q.1) = some x
      exact this.symm
  · have ak : AtK (T.map Fn.s) f.s (fl q.1) q.1.s := ⟨List.mem_map_of_mem q.2.1, q.2.2, fl_at h.inv q.2.1 q.2.2.1⟩
    have ox : okT (fl q.1) := by have := (h.ok q.1 q.2.1).1 _ (List.mem_of_getElem? ak.2.2); unfold okT maxLen; omega
    have hv := (hk _ _ ox).2 ⟨q.1.s, ak, rfl⟩
    obtain ⟨i, hi⟩ := List.getElem?_of_mem ((vs.mem _).2 ⟨ox, by rw [hv]; rfl⟩)
    obtain ⟨q', a, b, c⟩ := k2 i _ hi
    have e := h.inv.atk b ak
    have : q'.1 = q.1 := h.same q'.2.1 q.2.1 (by rw [e])
    have : q' = q := Subtype.ext this
    rw [← this]
    exact List.mem_of_getElem? a
theorem nodup_le' {α : Type} [DecidableEq α] : ∀ (l k : List α), l.Nodup → (∀ x ∈ l, x ∈ k) → l.length ≤ k.length
  | [], _, _, _ => Nat.zero_le _
  | a :: l, k, h, hs => by
    have ha := hs a List.mem_cons_self
    rw [List.nodup_cons] at h
    have := nodup_le' l (k.erase a) h.2 (fun x hx => (List.mem_erase_of_ne (fun e => h.1 (by rw [← e]; exact hx))).2 (hs x (List.mem_cons_of_mem _ hx)))
    rw [List.length_erase_of_mem ha] at this
    have := List.length_pos_of_mem ha
    simp
    omega
/-- A row of nodes, in a box. -/
structure KsAt (w : World) (bs B : Nat) (K : List (Kd T f)) : Prop where
  ex : ∃ v, w.heap[bs]? = some (.cells #[v] 100 (0, 0)) ∧ w.ownsRow B 60 1 v K.length (K.map enc)
theorem allp {kd : ByteArray → Option Value} (hk : Kds (T.map Fn.s) f.s kd) : AllP kd := fun y v oy hv => by
  obtain ⟨e, _, rfl⟩ := (hk y v oy).1 hv
  exact ⟨_, rfl⟩
set_option maxRecDepth 100000 in
set_option maxHeartbeats 2000000 in
theorem sortedfunc_kids (h : TM w tb r nf nn T) (hf : f ∈ T) (hl : T.length ≤ 900000) {mo : Option Nat} (hmo : f.kv = .map mo) {bs : Nat} (hbs : w.heap[bs]? = some (.cells #[.map mo] 73 (0, 0))) :
    Calls Tryz.prog 71 #[.func (.func 84) #[] #[ptr bs], .func (.func 73) #[] #[]] w fun e w' => ∃ (a : Option Addr) (c : Nat) (K : List (Kd T f)), e = .returned (.slice a K.length c) ∧ w'.ownsRow w.heap.size 60 1 (.slice a K.length c) K.length (K.map enc) ∧ KidsOrd T f (K.map (·.1)) ∧ Below w.heap.size w w' := by
  obtain ⟨nk, kd, b1, b2, b3⟩ := (h.nd f hf).kv
  rw [hmo] at b2
  have VC := hidi (vals_collect b2 (allp b3) (by omega) hbs)
  have SF := hidi (fun (w1 : World) (v : Value) (ys : List ByteArray) (vs : Vs kd ys) (ho : w1.ownsRow w.heap.size 60 1 v ys.length (ys.map (kv1 kd))) (hb : Below w.heap.size w w1) => (show Calls Tryz.prog 83 #[v, .func (.func 73) #[] #[]] w1 fun e w' => e = .returned (.tuple #[]) ∧ ∃ zs : List (Kd T f), w'.ownsRow w.heap.size 60 1 v zs.length (zs.map enc) ∧ KidsOrd T f (zs.map (·.1)) ∧ Below w.heap.size w w' from by
    obtain ⟨xs, x1, x2, x3, x4⟩ := kids_pick h hf vs b3
    rw [← x1, x2] at ho
    have hle : xs.length ≤ T.length := by
      have n1 : (xs.map fun q => fl q.1).Nodup := by rw [x3]; exact vs.nd
      have := nodup_le' (xs.map fun q => fl q.1) (T.map fl) n1 (fun x hx => by
        obtain ⟨q, _, rfl⟩ := List.mem_map.1 hx
        exact List.mem_map_of_mem q.2.1)
      simpa using this
    refine (sortfunc_any xs (h.below hb) ho (by rw [x3]; exact vs.nd) x4 hle (by omega)).mono ?_
    rintro e w' ⟨rfl, zs, o1, o2, o3⟩
    exact ⟨rfl, zs, o1, o2, hb.trans o3⟩))
  unfold ptr at *
  clear h hf b1 b2 b3 hbs
  go_enter Tryz.func71, Tryz.ntmps71
  go_wp2_with (first
    | (go_at_call 82; refine VC.out.mono ?_; rintro e w1 ⟨v, ys, rfl, vs, ho, hb⟩; obtain ⟨a, c, rfl⟩ := own_sl ho; have S1 := hidi (SF.out w1 _ ys vs ho hb); clear vs ho hb VC SF)
    | (go_at_call 83; refine S1.out.mono ?_; rintro e w2 ⟨rfl, zs, o1, o2, o3⟩; have O := hidi (And.intro o1 (And.intro o2 o3)); clear o1 o2 o3 S1))
  go_ret
  obtain ⟨o1, o2, o3⟩ := O.out
  have e := own_sl o1
  obtain ⟨a', c', e⟩ := e
  simp only [Value.slice.injEq] at e
  obtain ⟨rfl, e2, rfl⟩ := e
  rw [e2] at o1 ⊢
  exact ⟨_, _, zs, rfl, o1, o2, o3⟩
theorem vals70_any (a : Option Addr) (n c : Nat) (w : World) :
    Calls Tryz.prog 70 #[.slice a n c] w fun e w' => e = .returned (.func (.func 81) #[] #[ptr w.heap.size]) ∧ w' = w.alloc (.cells #[.slice a n c] 100) := by
  unfold ptr
  go_enter Tryz.func70, Tryz.ntmps70
  go_wp2_with fail
  go_ret
  exact ⟨rfl, rfl⟩
set_option maxRecDepth 100000 in
set_option maxHeartbeats 2000000 in
/-- INORDER: the nodes right below f, in order, in a row of their own. -/
theorem inorder_any (h : TM w tb r nf nn T) (hf : f ∈ T) (hl : T.length ≤ 900000) :
    Calls Tryz.prog 54 #[ptr f.s.p] w fun e w' => ∃ (bs : Nat) (K : List (Kd T f)), e = .returned (.func (.func 81) #[] #[ptr bs]) ∧ KsAt w' bs w.heap.size K ∧ KidsOrd T f (K.map (·.1)) ∧ w.heap.size ≤ bs ∧ Below w.heap.size w w' := by
  obtain ⟨mo, hmo⟩ : ∃ mo, f.kv = .map mo := by
    obtain ⟨nk, kd, b1, b2, b3⟩ := (h.nd f hf).kv
    rcases b2.mk with e | ⟨mb, e⟩
    · exact ⟨_, e⟩
    · exact ⟨_, e⟩
  have c2 : w.cell? ⟨f.s.p, 2, none⟩ = some (.map mo) := by rw [← hmo]; exact box_cells (h.nd f hf).at_ 2 _ rfl
  have ba : Below w.heap.size w (w.alloc (.cells #[.map mo] 73)) := (Below.refl _ _).alloc (Nat.le_refl _) _
  have VA := hidi (values_any mo w)
  have SK := hidi (sortedfunc_kids (h.below ba) hf hl hmo (heap_alloc_new w _))
  have V7 := hidi (fun a n c w => vals70_any a n c w)
  have BA := hidi ba
  unfold ptr at *
  clear h hf hl hmo ba
  go_enter Tryz.func54, Tryz.ntmps54
  go_wp2_with (first
    | (go_at_call 72; refine VA.out.mono ?_; rintro e w1 ⟨rfl, rfl⟩; clear VA c2)
    | (go_at_call 71; refine SK.out.mono ?_; rintro e w2 ⟨a, c, K, rfl, ho, ko, hb⟩; have HK := hidi (And.intro ho (And.intro ko hb)); clear ho ko hb SK)
    | (go_at_call 70; refine (V7.out _ _ _ _).mono ?_; rintro e w3 ⟨rfl, rfl⟩; clear V7))
  go_ret
  obtain ⟨ho, ko, hb⟩ := HK.out
  have hs := BA.out.size
  have hs2 := hb.size
  refine ⟨w2.heap.size, K, rfl, ⟨_, heap_alloc_new _ _, ?_⟩, ko, by omega, (BA.out.trans (hb.mono hs)).alloc (by omega) _⟩
  exact (row_base (B' := w.heap.size) ho (fun g hg => by have := row_ge ho hg; omega)).alloc _
end Go.Proofs.YtipagdhoeocjeaaGreat.Li
namespace Go.Proofs.YtipagdhoeocjeaaGreat.Li
open Go Go.RowKit
set_option linter.unusedSimpArgs false
set_option linter.unusedVariables false
/-! ### A region that draws its order, in a round -/
theorem upon_round {F : Fence} {n : Nat} {P : Program} {o : Oper} {a : Act} {K : Act → World → Prop} {Q : Exit → Act → World → Prop} {r : Result Next} (l : Nat) (h : o.uponIn F n P a K Q r) : o.uponIn (F.inRound l) n P a K Q r := by
  cases r with
  | halt x w => exact h
  | ok x w => cases x <;> exact h
theorem op_round {F : Fence} {n : Nat} {P : Program} {o : Oper} {a : Act} {w : World} {K : Act → World → Prop} {Q : Exit → Act → World → Prop} (l : Nat) (hF : F.round = none) (hd : ∀ c, o.op ≠ .defer c) (h : o.wpIn F n P a w K Q) : o.wpIn (F.inRound l) n P a w K Q := by
  refine ⟨h.1, ?_⟩
  have h2 := h.2
  rw [hF, Oper.semAt_none] at h2
  rw [Fence.inRound_round, Oper.semAt_some l _ o hd]
  exact upon_round l h2
theorem any_round {F : Fence} {n : Nat} {P : Program} {md : Region.Mode} {ops : Array Oper} {Q : Exit → Act → World → Prop} (l : Nat) (hF : F.round = none) (hd : ∀ (i : Nat) (o : Oper), ops[i]? = some o → ∀ c, o.op ≠ .defer c) : ∀ (fuel : Nat) (listed : Array Bool) (a : Act) (w : World), wpAnyIn F n P md ops Q fuel listed a w → wpAnyIn (F.inRound l) n P md ops Q fuel listed a w
  | 0, listed, a, w, h => h
  | fuel + 1, listed, a, w, h => by
    refine ⟨h.1, fun i hi => ?_⟩
    have h1 := h.2 i hi
    unfold wpOpIn at h1 ⊢
    cases ho : ops[i]? with
    | none =>
      rw [ho] at h1
      exact any_round l hF hd fuel _ _ _ h1
    | some o =>
      rw [ho] at h1
      simp only at h1 ⊢
      split
      · rename_i hw
        rw [if_pos hw] at h1
        exact Oper.wpIn_mono (fun a w q => any_round l hF hd fuel _ a w q) (op_round l hF (hd i o ho) h1)
      · rename_i hw
        rw [if_neg hw] at h1
        exact ⟨h1.1, any_round l hF hd fuel _ _ _ h1.2⟩
/-- No operation of these puts a call off. -/
def noDefer (ops : Array Oper) : Bool := ops.all fun o => match o.op with
  | .defer _ => false
  | _ => true
theorem noDefer_spec {ops : Array Oper} (h : noDefer ops = true) : ∀ (i : Nat) (o : Oper), ops[i]? = some o → ∀ c, o.op ≠ .defer c := by
  intro i o ho c q
  unfold noDefer at h
  have := Array.all_eq_true_iff_forall_mem.1 h o (Array.mem_of_getElem? ho)
  rw [q] at this
  cases this
/-- What goes whatever the order is, goes within the widest fence. -/
theorem any_wide {n : Nat} {P : Program} {md : Region.Mode} {ops : Array Oper} {Q : Exit → Act → World → Prop} (hQ : ¬ LetsOut Q) : ∀ (fuel : Nat) (listed : Array Bool) (a : Act) (w : World), wpAny P md ops Q fuel listed a w → wpAnyIn Fence.wide n P md ops Q fuel listed a w
  | 0, listed, a, w, h => h
  | fuel + 1, listed, a, w, h => by
    refine ⟨h.1, fun i hi => ?_⟩
    have h1 := h.2 i hi
    unfold wpOp at h1
    unfold wpOpIn
    cases ho : ops[i]? with
    | none =>
      rw [ho] at h1
      exact any_wide hQ fuel _ _ _ h1
    | some o =>
      rw [ho] at h1
      simp only at h1 ⊢
      split
      · rename_i hw
        rw [if_pos hw] at h1
        have h2 := h1.resolve_right (fun q => hQ q.2)
        refine ⟨fun f _ => trivial, ?_⟩
        have e : o.semAt Fence.wide.round a.eval = execOp a.eval o := Oper.semAt_none _ _
        rw [e]
        unfold Oper.wp at h2
        generalize (execOp a.eval o).run P w = r at h2 ⊢
        cases r with
        | halt x w' => cases x <;> exact h2
        | ok x w' =>
          cases x with
          | value v => exact any_wide hQ fuel _ _ _ h2
          | skip => exact any_wide hQ fuel _ _ _ h2
          | defer d => exact any_wide hQ fuel _ _ _ h2
          | enter f args => 
            refine ⟨fun q => (by cases q), callsIn_wide.2 (Calls.mono h2 (fun e w'' he => ?_))⟩
            cases e with
            | returned v => exact any_wide hQ fuel _ _ _ he
            | panicked c => exact he
            | outgrown => exact he
          | row row args => 
            refine ⟨fun q => (by cases q), ?_⟩
            intro c cs _
            obtain ⟨v, w'', he, st⟩ := h2 c cs
            exact ⟨v, w'', any_wide hQ fuel _ _ _ he, stepsIn_wide.2 st⟩
          | _ => exact h2.elim
      · rename_i hw
        rw [if_neg hw] at h1
        exact ⟨fun f _ => trivial, any_wide hQ fuel _ _ _ h1⟩
theorem region_round {n : Nat} {P : Program} {id : Nat} {ops : Array Oper} {Q : Exit → Act → World → Prop} {a : Act} {w : World} {l : Nat} (hm : P.follows .mixedOrders = true) (hd : noDefer ops = true) (h : wpAnyIn Fence.wide n P .any ops Q ops.size (Array.replicate ops.size false) a w.drew) : (Code.region id ops true).wpIn (Fence.wide.inRound l) n P Q a w :=
  wpIn_region_any hm (any_round l rfl (noDefer_spec hd) _ _ _ _ h)
theorem region_round_held {n : Nat} {P : Program} {id : Nat} {ops : Array Oper} {Q : Exit → Act → World → Prop} {a : Act} {w : World} {l : Nat} (S : World → Prop) (hm : P.follows .mixedOrders = true) (hd : noDefer ops = true) (hQ : ¬ LetsOut Q) (hS : S w.drew) (h : S w.drew → wpAnyH P .any ops Q S ops.size (Array.replicate ops.size false) a w.drew) : (Code.region id ops true).wpIn (Fence.wide.inRound l) n P Q a w :=
  region_round hm hd (any_wide hQ _ _ _ _ (wpAny_of_held _ _ _ _ (h hS)))
/-! ### A region that draws its order, of which some operations (Ts) may end what held of the world till then -/
section
variable {P : Program} {ops : Array Oper} {Q : Exit → Act → World → Prop} {md : Region.Mode} {S : World → Prop} {T : List Nat}
def wpAnyU (P : Program) (md : Region.Mode) (ops : Array Oper) (Q : Exit → Act → World → Prop) (S : World → Prop) (T : List Nat) : Nat → Array Bool → Act → World → Prop
  | 0, listed, a, w => Region.ready md ops listed = [] ∧ Q .normal a w
  | fuel + 1, listed, a, w =>
    (Region.ready md ops listed = [] → Q .normal a w) ∧
    ∀ i ∈ Region.ready md ops listed, wpOp P ops Q i (fun a' w' => (i ∉ T → S w') ∧ wpAnyU P md ops Q S T fuel (listed.setIfInBounds i true) a' w') a w
theorem wpAny_of_U : ∀ (fuel : Nat) (listed : Array Bool) (a : Act) (w : World), wpAnyU P md ops Q S T fuel listed a w → wpAny P md ops Q fuel listed a w
  | 0, _, _, _, h => h
  | fuel + 1, _, _, _, h => ⟨h.1, fun i hi => wpOp_mono (fun a' w' h' => wpAny_of_U fuel _ a' w' h'.2) (h.2 i hi)⟩
/-- Does T wait for it? -/
def waitsT (md : Region.Mode) (ops : Array Oper) (i T : Nat) : Bool := match ops[T]? with
  | some o => o.after.toList.any (fun e => Region.binds md e && e.on == i)
  | none => true
theorem wpAnyU_first {i : Nat} {oi : Oper} {v : Value} (hi : ops[i]? = some oi) (hT : T.all (waitsT md ops i) = true) (hsel : ∀ (j : Nat) (o : Oper) cs b, ops[j]? = some o → o.op ≠ .select cs b)
    (hQ : ∀ c a w, Q (.panic c) (a.put oi.dst v) w → Q (.panic c) a w) :
    ∀ (fuel : Nat) (listed : Array Bool) (a : Act) (w : World),
      (∀ j oj, ops[j]? = some oj → j ≠ i → listed.getD j true = false → (∀ e ∈ oj.after, Region.binds md e = true → e.on ≠ i) → oi.apart ops oj = true) →
      i ∈ Region.ready md ops listed → YieldsIf P ops S oi v a → S w →
      wpAnyU P md ops Q S T fuel (listed.setIfInBounds i true) (a.put oi.dst v) w → wpAnyU P md ops Q S T (fuel + 1) listed a w := by
  intro fuel
  induction fuel with
  | zero =>
    intro listed a w _ hr hy hS H
    refine ⟨fun h => (by rw [h] at hr; cases hr), fun j hj => ?_⟩
    by_cases hji : j = i
    · subst hji; exact hy.wpOp hi hS ⟨fun _ => hS, H⟩
    · have := ready_mono hj hji
      rw [H.1] at this
      cases this
  | succ fuel ih =>
    intro listed a w hfree hr hy hS H
    refine ⟨fun h => (by rw [h] at hr; cases hr), fun j hj => ?_⟩
    by_cases hji : j = i
    · subst hji; exact hy.wpOp hi hS ⟨fun _ => hS, H⟩
    · have h1 := H.2 j (ready_mono hj hji)
      obtain ⟨hjun, oj, hoj, hall⟩ := mem_ready.1 hj
      have hnot : ∀ e ∈ oj.after, Region.binds md e = true → e.on ≠ i := fun e he hb heq => by
        have h1 := hall e he hb
        have h0 := (mem_ready.1 hr).1
        rw [heq] at h1
        rcases Nat.lt_or_ge i listed.size with h' | h'
        · simp [h'] at h0 h1; rw [h0] at h1; cases h1
        · simp [Array.getElem?_eq_none h'] at h1
      have hjT : j ∉ T := fun e => by
        have hT := List.all_eq_true.1 hT j e
        unfold waitsT at hT
        rw [hoj] at hT
        simp only [List.any_eq_true, Bool.and_eq_true, beq_iff_eq] at hT
        obtain ⟨e, he, hb, ho⟩ := hT
        exact hnot e (Array.mem_toList_iff.1 he) hb ho
      have h2 := wpOp_putIf hoj (hfree j oj hoj hji hjun hnot) (fun cs b => hsel i oi cs b hi) (fun cs b => hsel j oj cs b hoj) hQ hy h1
      have hfree' : ∀ k ok, ops[k]? = some ok → k ≠ i → (listed.setIfInBounds j true).getD k true = false →
          (∀ e ∈ ok.after, Region.binds md e = true → e.on ≠ i) → oi.apart ops ok = true := fun k ok hk hki hun hno => by
        refine hfree k ok hk hki ?_ hno
        by_cases hjk : j = k
        · subst hjk; exact hjun
        · rw [getD_set_ne true hjk] at hun; exact hun
      refine wpOp_mono (fun a' w' h3 => ⟨fun _ => h3.2.1 hjT, ih (listed.setIfInBounds j true) a' w' hfree' (ready_mono hr (Ne.symm hji)) h3.1 (h3.2.1 hjT) ?_⟩) h2
      rw [Array.setIfInBounds_comm _ _ hji]
      exact h3.2.2
theorem wpAnyU_take {i : Nat} {oi : Oper} {v : Value} {fuel : Nat} {listed : Array Bool} {a : Act} {w : World} (hi : ops[i]? = some oi) (hT : T.all (waitsT md ops i) = true)
    (hs : Region.noSelect ops = true) (hf : Region.free md ops listed i = true) (hr : (Region.ready md ops listed).contains i = true)
    (hQ : ∀ c a w, Q (.panic c) (a.put oi.dst v) w → Q (.panic c) a w) (hy : YieldsIf P ops S oi v a) (hS : S w)
    (h : wpAnyU P md ops Q S T fuel (listed.setIfInBounds i true) (a.put oi.dst v) w) : wpAnyU P md ops Q S T (fuel + 1) listed a w :=
  wpAnyU_first hi hT (Region.noSelect_spec hs) hQ fuel listed a w (Region.free_spec hi hf) (by simpa using hr) hy hS h
def AllReadyU (P : Program) (md : Region.Mode) (ops : Array Oper) (Q : Exit → Act → World → Prop) (S : World → Prop) (T : List Nat) (fuel : Nat) (listed : Array Bool) (a : Act) (w : World) (rs : List Nat) : Prop :=
  ∀ i ∈ rs, wpOp P ops Q i (fun a' w' => (i ∉ T → S w') ∧ wpAnyU P md ops Q S T fuel (listed.setIfInBounds i true) a' w') a w
theorem AllReadyU.nil {fuel : Nat} {listed : Array Bool} {a : Act} {w : World} : AllReadyU P md ops Q S T fuel listed a w [] := fun _ h => by cases h
theorem AllReadyU.cons {fuel : Nat} {listed : Array Bool} {a : Act} {w : World} {i : Nat} {o : Oper} {rs : List Nat} (ho : ops[i]? = some o)
    (h : ∀ K' : Act → World → Prop, Shut (∀ a w, S w → (S w → wpAnyU P md ops Q S T fuel (listed.setIfInBounds i true) a w) → K' a w) → if Region.wanted o (yielded ops a.tmps) = true then Oper.wp P o a w K' Q else K' (a.put o.dst undef) w)
    (hs : AllReadyU P md ops Q S T fuel listed a w rs) : AllReadyU P md ops Q S T fuel listed a w (i :: rs) := fun j hj => by
  rcases List.mem_cons.1 hj with rfl | hj
  · exact wpOp_step ho (fun K' hK => h K' (fun a w hS hW => hK a w ⟨fun _ => hS, hW hS⟩))
  · exact hs j hj
/-- One of those behind which nothing is asked. -/
theorem AllReadyU.free {fuel : Nat} {listed : Array Bool} {a : Act} {w : World} {i : Nat} {o : Oper} {rs : List Nat} (ho : ops[i]? = some o) (hi : T.contains i = true)
    (h : ∀ K' : Act → World → Prop, Shut (∀ a w, wpAnyU P md ops Q S T fuel (listed.setIfInBounds i true) a w → K' a w) → if Region.wanted o (yielded ops a.tmps) = true then Oper.wp P o a w K' Q else K' (a.put o.dst undef) w)
    (hs : AllReadyU P md ops Q S T fuel listed a w rs) : AllReadyU P md ops Q S T fuel listed a w (i :: rs) := fun j hj => by
  rcases List.mem_cons.1 hj with rfl | hj
  · exact wpOp_step ho (fun K' hK => h K' (fun a w hW => hK a w ⟨fun q => absurd (by simpa using hi) q, hW⟩))
  · exact hs j hj
theorem wpAnyU_ready {rs : List Nat} {fuel : Nat} {listed : Array Bool} {a : Act} {w : World} (hr : Region.ready md ops listed = rs) (hne : rs ≠ [])
    (h : AllReadyU P md ops Q S T fuel listed a w rs) : wpAnyU P md ops Q S T (fuel + 1) listed a w := ⟨fun h0 => absurd (hr ▸ h0) hne, hr ▸ h⟩
theorem wpAnyU_done {listed : Array Bool} {a : Act} {w : World} (hr : Region.ready md ops listed = []) (h : Q .normal a w) : ∀ fuel, wpAnyU P md ops Q S T fuel listed a w
  | 0 => ⟨hr, h⟩
  | _ + 1 => ⟨fun _ => h, by rw [hr]; simp⟩
theorem wp_region_U {id : Nat} {a : Act} {w : World} (S : World → Prop) (T : List Nat) (hm : P.follows .mixedOrders = true) (hS : S w.drew)
    (h : S w.drew → wpAnyU P .any ops Q S T ops.size (Array.replicate ops.size false) a w.drew) : (Code.region id ops true).wp P Q a w :=
  wp_region_any hm (wpAny_of_U _ _ _ _ (h hS))
theorem region_round_U {n : Nat} {id l : Nat} {a : Act} {w : World} (S : World → Prop) (T : List Nat) (hm : P.follows .mixedOrders = true) (hd : noDefer ops = true) (hQ : ¬ LetsOut Q) (hS : S w.drew)
    (h : S w.drew → wpAnyU P .any ops Q S T ops.size (Array.replicate ops.size false) a w.drew) : (Code.region id ops true).wpIn (Fence.wide.inRound l) n P Q a w :=
  region_round hm hd (any_wide hQ _ _ _ _ (wpAny_of_U _ _ _ _ (h hS)))
end
end Go.Proofs.YtipagdhoeocjeaaGreat.Li
namespace Go.Proofs.YtipagdhoeocjeaaGreat.Li
open Go Go.RowKit Go.Shelf
set_option linter.unusedSimpArgs false
set_option linter.unusedVariables false
attribute [local go_sem] Oper.semAt_some
/-- What a round keeps: all that lay below, and all cells but those that are excepted. -/
structure Kn (n₀ : Nat) (X : Nat → Nat → Prop) (W W' : World) : Prop where
  be : Below n₀ W W'
  cl : ∀ (k : Nat) (cs : Array Value) (t : Nat) (fz : Nat × Nat), W.heap[k]? = some (Obj.cells cs t fz) → ¬ X k t → W'.heap[k]? = some (Obj.cells cs t fz)
variable {n₀ : Nat} {X : Nat → Nat → Prop}
theorem Kn.refl (W : World) : Kn n₀ X W W := ⟨Below.refl _ _, fun _ _ _ _ h _ => h⟩
theorem Kn_t {A B C : World} (h : Kn n₀ X A B) (k : Kn n₀ X B C) : Kn n₀ X A C := ⟨h.be.trans k.be, fun j cs t fz e ht => k.cl j cs t fz (h.cl j cs t fz e ht) ht⟩
theorem Kn_b {w : World} (hn : n₀ ≤ w.heap.size) (W : World) (l : Nat) (o o' : Obj) (hl : w.heap.size ≤ l) (h : W.heap[l]? = some o) (h1 : o.isCells = false) (h2 : o.isWalk = false) : Kn n₀ X W (W.putObj l o') :=
  ⟨belowK_b hn W l o o' hl h h1 h2, fun k cs t fz e _ => by
    by_cases c : k = l
    · subst c; rw [h] at e; cases e; cases h1
    · exact (World.putObj_heap_other c).trans e⟩
theorem Kn.of {W W' : World} (h : Below W.heap.size W W') (hn : n₀ ≤ W.heap.size) : Kn n₀ X W W' := ⟨h.mono hn, fun k cs t fz e _ => (h.block k (Array.getElem?_eq_some_iff.1 e).1).trans e⟩
theorem Kn.cell {W W' : World} (h : Kn n₀ X W W') {k t : Nat} {cs : Array Value} {fz : Nat × Nat} (e : W.heap[k]? = some (.cells cs t fz)) (ht : ¬ X k t) (o : Nat) : W'.cell? ⟨k, o, none⟩ = W.cell? ⟨k, o, none⟩ := by
  unfold World.cell?
  rw [h.cl k cs t fz e ht, e]
theorem Kn.row {W W' : World} (h : Kn n₀ X W W') {B e s n : Nat} {v : Value} {xs : List Value} (ho : W.ownsRow B e s v n xs) (hx : ∀ k, B ≤ k → ¬ X k e) : W'.ownsRow B e s v n xs := by
  refine ⟨ho.1, ?_⟩
  rcases ho.2 with q | ⟨g, cap, cur, hv, a, b, c⟩
  · exact .inl q
  · exact .inr ⟨g, cap, cur, hv, a, h.cl g cur e (0, 0) b (hx g a), c⟩
variable {w : World} {T : List Fn} {f : Fn}
theorem KsAt.kn {W W' : World} {bs B : Nat} {K : List (Kd T f)} (h : KsAt W bs B K) (k : Kn n₀ X W W') (h1 : ∀ j, B ≤ j → ¬ X j 60) (h2 : ¬ X bs 100) : KsAt W' bs B K := by
  obtain ⟨v, a, b⟩ := h.ex
  exact ⟨v, k.cl _ _ _ _ a h2, k.row b h1⟩
theorem KsAt.below {W W' : World} {bs B : Nat} {K : List (Kd T f)} (h : KsAt W bs B K) (hb : Below W.heap.size W W') : KsAt W' bs B K := by
  obtain ⟨v, a, b⟩ := h.ex
  exact ⟨v, later_at a hb, own_below b hb⟩
set_option maxRecDepth 100000 in
set_option maxHeartbeats 4000000 in
/-- slices.Values's iterator over a row of nodes. -/
theorem vals81_stops {bs B : Nat} {K : List (Kd T f)} (hk : KsAt w bs B K) (hl : K.length ≤ 900000) (h1 : ∀ j, B ≤ j → ¬ X j 60) (h2 : ¬ X bs 100) (n : Nat) (hn : 1 ≤ n) :
    SeqStopsK Fence.wide n Tryz.prog 81 #[ptr bs] (fun q : Kd T f => #[enc q]) (Kn n₀ X) (fun ys => ys = K) (fun _ => True) K.length w := fun l J Jx W hW hA hAx hY hJ0 => by
  have hkW := hk.below hW
  obtain ⟨v, a0, ro⟩ := hkW.ex
  obtain ⟨aa, cc, rfl⟩ := own_sl ro
  have c0 := box_cells a0 0 _ rfl
  obtain ⟨len, hlen⟩ : ∃ len, len = K.length := ⟨_, rfl⟩
  rw [← hlen] at c0
  have CL := hidi (fun (W' : World) (kn : Kn n₀ X W W') (k : Nat) (q : Kd T f) (hq : K[k]? = some q) => (show ∃ g, aa = some ⟨g, 0, none⟩ ∧ len ≤ cc ∧ W'.cell? ⟨g, k, none⟩ = some (enc q) from by
    have r2 := kn.row ro h1
    have hkl : k < K.length := (List.getElem?_eq_some_iff.1 hq).1
    rcases r2.2 with ⟨_, e⟩ | ⟨g, cap, cur, hv, _, hg, h4, _, h6, h7⟩
    · omega
    · simp only [Value.slice.injEq] at hv
      obtain ⟨rfl, -, rfl⟩ := hv
      refine ⟨g, rfl, by omega, ?_⟩
      refine box_cells hg k _ ?_
      rw [← Array.getElem?_toList]
      have e := congrArg (fun l => l[k]?) h7
      simp only [List.getElem?_take, if_pos (show k < K.length * 1 by omega), List.getElem?_map, hq, Option.map_some] at e
      exact e))
  have HN := hidi (And.intro hlen hl)
  have HY := hidi hY
  have HJ := hidi hJ0
  clear hY hk hkW ro hlen hJ0 hA hAx a0 hl
  unfold ptr at *
  refine callsIn_of_wp Tryz.func81 rfl trivial ?_ rfl
  simp only [Tryz.ntmps81, List.size_toArray, List.length_cons, List.length_nil, Nat.reduceAdd, Nat.reduceSub, Array.replicate_succ, Array.replicate_zero, List.push_toArray, List.append_toArray, List.nil_append, List.cons_append]
  gi_wp2
  gi_loopw [7] (fun i wr => ∃ k q : Nat, k + q = len ∧ i = .int .i64 (k : Int) ∧ Hid (J (K.take k) wr ∧ Kn n₀ X W wr))
    (fun i _ => ((len : Int) - intOf i).toNat)
  case atStart => exact ⟨0, len, by omega, rfl, HJ.out, Kn.refl _⟩
  case round =>
    obtain ⟨k, q, hk, rfl, HR⟩ := hrel
    cases q with
    | zero =>
      obtain rfl : k = len := by omega
      have hq : ¬ (k : Int) < (k : Int) := by omega
      have e1 : K.take k = K := by rw [HN.out.1]; exact List.take_length
      have HJ2 := HR.out.1
      rw [e1] at HJ2
      gi_wp2
      refine bodyPost_end (results_none rfl _ _ _) rfl ?_
      first | exact ⟨⟨_, rfl⟩, .inl HJ2⟩ | exact ⟨⟨_, rfl⟩, .inl ⟨_, rfl, HJ2⟩⟩
    | succ q =>
      have hq1 : (k : Int) < len := by omega
      have hk0 : (0 : Int) ≤ (k : Int) := by omega
      have hw1 : IntKind.i64.wrap ((k : Int) + 1) = (k : Int) + 1 := by rw [IntKind.wrap_i64]; have := HN.out; omega
      obtain ⟨x, hx⟩ : ∃ x, K[k]? = some x := ⟨_, List.getElem?_eq_getElem (by have := HN.out; omega)⟩
      obtain ⟨g, rfl, hcc, d0⟩ := CL.out wr HR.out.2 k x hx
      have HT : Hid (K.take (k + 1) = K.take k ++ [x]) := by show _ = _; rw [List.take_add_one, hx]; rfl
      have hpl : (K.take k).length < K.length := by rw [List.length_take]; have := HN.out; omega
      obtain ⟨fn, tmps, assign, body, hy, hR⟩ := HY.out _ x wr HR.out.1 hpl
      unfold enc ptr at hy d0
      clear hx hpl
      gi_wp2
      refine hR.mono ?_
      rintro e W3 (⟨rfl, hJ3, hk3⟩ | ⟨rfl, hJx3⟩)
      · have H3 := hidi (And.intro hJ3 hk3)
        clear hJ3 hk3
        gi_wp2
        go_roundw
        case rel => exact ⟨k + 1, q, by omega, by simp, by rw [HT.out]; exact H3.out.1, Kn_t HR.out.2 H3.out.2⟩
        case measure => simp [intOf]; omega
      · have H3 := hidi hJx3
        clear hJx3
        gi_wp2
        (try simp only [Exit.inBlock, Exit.then, Exit.noGoto])
        refine bodyPost_ret (results_none rfl _ _ _) rfl ?_
        exact ⟨⟨_, rfl⟩, .inr ⟨_, trivial, H3.out⟩⟩
end Go.Proofs.YtipagdhoeocjeaaGreat.Li
namespace Go.Proofs.YtipagdhoeocjeaaGreat.Li
open Go Go.RowKit Go.Shelf
set_option linter.unusedSimpArgs false
set_option linter.unusedVariables false
/-! ### what is given, as it is kept -/
abbrev Ml := Msg × Value
def mlc (x : Ml) : List Value := [.string x.1.t, x.2, .int .i64 x.1.q, .bool x.1.r]
def mrw (X : List Ml) : List Value := X.flatMap mlc
theorem mrw_app (X Y : List Ml) : mrw (X ++ Y) = mrw X ++ mrw Y := by simp [mrw]
theorem mrw_len (X : List Ml) : (mrw X).length = X.length * 4 := by
  induction X with
  | nil => rfl
  | cons x r ih =>
    show (mlc x ++ mrw r).length = _
    rw [List.length_append, ih]
    simp [mlc]
    omega
theorem setCell_same {w : World} {X i : Nat} {cs : Array Value} {ty : TypeId} {v : Value} (h : w.heap[X]? = some (.cells cs ty (0, 0))) (hi : cs[i]? = some v) : w.setCell ⟨X, i, none⟩ v = w := by
  have e : (w.setCell ⟨X, i, none⟩ v).heap = w.heap := by
    apply Array.ext_getElem?
    intro k
    by_cases q : k = X
    · subst q
      rw [heap_set h v, h]
      have : cs.setIfInBounds i v = cs := by
        apply Array.ext_getElem?
        intro j
        rw [Array.getElem?_setIfInBounds]
        split
        · rename_i e
          subst e
          rw [hi]
          have := (Array.getElem?_eq_some_iff.1 hi).1
          simp [this]
        · rfl
      rw [this]
    · exact heap_set_ne _ q
  cases w
  simp only [World.setCell, World.mk.injEq] at e ⊢
  exact ⟨e, trivial, trivial, trivial, trivial⟩
/-- What has been given, in memory. -/
structure GS (n₀ nb lb wb : Nat) (X : List Ml) (W : World) : Prop where
  n_ : W.heap[nb]? = some (.cells #[.int .i64 0] 3 (0, 0))
  w_ : W.heap[wb]? = some (.cells #[.bool true] 4 (0, 0))
  l_ : ∃ v, W.heap[lb]? = some (.cells #[v] 22 (0, 0)) ∧ W.ownsRow n₀ 30 4 v X.length (mrw X)
  pl : ∀ x ∈ X, Pl W x.2 x.1.xs
  lo : n₀ ≤ nb ∧ n₀ ≤ lb ∧ n₀ ≤ wb
/-- What a yield may change. -/
def Xg (lb wb : Nat) (k t : Nat) : Prop := t = 30 ∨ k = lb ∨ k = wb
variable {n₀ nb lb wb : Nat} {X : List Ml} {W W' : World}
theorem GS.below (h : GS n₀ nb lb wb X W) (hb : Below W.heap.size W W') : GS n₀ nb lb wb X W' := by
  obtain ⟨v, a, b⟩ := h.l_
  exact ⟨later_at h.n_ hb, later_at h.w_ hb, ⟨v, later_at a hb, own_below b hb⟩, fun x hx => (h.pl x hx).below hb, h.lo⟩
theorem app_big {w : World} {v : Value} {n s bytes : Nat} {st e : TypeId} {xs : List Value} {cs : Array Value} {z : Value} (hu : Tryz.prog.underlying st = some (.slice e)) (hi : (Tryz.prog.info? e).map (fun i => (i.zero, i.size, i.bytes)) = some (some z, s, bytes)) (hz : z.cells.size = s) (hs : 0 < s) (hb : bytes ≤ 400)
    (ho : w.ownsRow 0 e s v n xs) (hc : cs.size = s) (h1 : ∀ u ∈ cs.toList, u.oneCell' = true) (hn : n ≤ 1000000000) :
    ∃ g' cap' w', (Builtin.append_ #[st, st] st #[v, .slice (some ⟨w.heap.size, 0, none⟩) 1 1]).run Tryz.prog (w.alloc (.cells cs e)) = .ok (.slice (some ⟨g', 0, none⟩) (n + 1) cap') w' ∧ w'.ownsRow 0 e s (.slice (some ⟨g', 0, none⟩) (n + 1) cap') (n + 1) (xs ++ cs.toList) ∧ Ch (fun j => v.ownBlock = some j) w w' ∧ (v.ownBlock = some g' ∨ w.heap.size ≤ g') := by
  obtain ⟨i0, hi0, hzz⟩ := Option.map_eq_some_iff.1 hi
  simp only [Prod.mk.injEq] at hzz
  obtain ⟨v', w', hr, h2, h3, h4, h5⟩ := run_append_own_at (P := Tryz.prog) (w.alloc (.cells cs e)) 0 st st e i0 z s bytes hu hi0 hzz.1 hzz.2.1 hzz.2.2 hz hs v n xs (ho.alloc _) ⟨w.heap.size, 0, none⟩ 1 1 cs.toList (by simp [hc]) (fun j u hu => by
    rw [addr_at]
    exact box_cells (heap_alloc_new w _) j u (by simpa using hu)) h1 (by unfold maxLen; omega) (Nat.le_trans (Nat.mul_le_mul (show n + 1 ≤ 1000000001 by omega) hb) (by omega)) (by omega)
  rcases h2.2 with ⟨_, q⟩ | ⟨g', cap', cur, rfl, _⟩
  · omega
  · refine ⟨g', cap', w', hr, h2, ?_, ?_⟩
    · exact (ch_alloc _ _ _).then ((ch_grown h3).mono (fun j _ q => q))
    · rcases h5 with q | q
      · exact .inl (by rw [← q]; rfl)
      · simp [Value.ownBlock] at q
        exact .inr (by omega)
theorem info30 : (Tryz.prog.info? 30).map (fun i => (i.zero, i.size, i.bytes)) = some (some (.agg #[.string ⟨#[]⟩, .slice none 0 0, .int .i64 0, .bool false]), 4, 56) := by kernel_rfl
/-- A message laid onto what has been given. -/
theorem gs_app (h : GS n₀ nb lb wb X W) (hn : n₀ ≤ W.heap.size) (hX : X.length ≤ 900000000) {m : Msg} {pv : Value} (h1 : pv.oneCell' = true) (hp : Pl W pv m.xs) {w2 : World} (b2 : Below W.heap.size W w2) {v : Value} (hv : W.heap[lb]? = some (.cells #[v] 22 (0, 0))) :
    ∃ g' cap' w3, (Builtin.append_ #[22, 22] 22 #[v, .slice (some ⟨w2.heap.size, 0, none⟩) 1 1]).run Tryz.prog (w2.alloc (.cells #[.string m.t, pv, .int .i64 m.q, .bool m.r] 30)) = .ok (.slice (some ⟨g', 0, none⟩) (X.length + 1) cap') w3 ∧ w3.cell? ⟨lb, 0, none⟩ = some v ∧ w3.frozen? ⟨lb, 0, none⟩ = false ∧ w3.heap[nb]? = some (.cells #[.int .i64 0] 3 (0, 0)) ∧
      GS n₀ nb lb wb (X ++ [(m, pv)]) (w3.setCell ⟨lb, 0, none⟩ (.slice (some ⟨g', 0, none⟩) (X.length + 1) cap')) ∧ Kn n₀ (Xg lb wb) W (w3.setCell ⟨lb, 0, none⟩ (.slice (some ⟨g', 0, none⟩) (X.length + 1) cap')) ∧ ∀ (k : Nat) (o : Obj), W.heap[k]? = some o → o.isCells = false → (w3.setCell ⟨lb, 0, none⟩ (.slice (some ⟨g', 0, none⟩) (X.length + 1) cap')).heap[k]? = some o := by
  obtain ⟨v', a, ro⟩ := h.l_
  rw [hv] at a
  simp at a
  subst a
  obtain ⟨g', cap', w3, k1, k2, k3, k4⟩ := app_big (st := 22) (e := 30) (cs := #[.string m.t, pv, .int .i64 m.q, .bool m.r]) Tryz.underlying22 info30 rfl (by omega) (by omega) (own0 (own_below ro b2)) rfl (fun u hu => by
    simp at hu
    rcases hu with rfl | rfl | rfl | rfl
    · rfl
    · exact h1
    · rfl
    · rfl) (by omega)
  have hnb : ∀ g, v.ownBlock = some g → ∃ cur, W.heap[g]? = some (.cells cur 30 (0, 0)) := fun g hg => own_lt ro hg
  have ne : ∀ (k t : Nat) (cs : Array Value), W.heap[k]? = some (.cells cs t (0, 0)) → t ≠ 30 → ∀ g, v.ownBlock = some g → k ≠ g := fun k t cs e ht g hg q => by
    obtain ⟨cur, hc⟩ := hnb g hg
    rw [← q, e] at hc
    simp at hc
    exact ht hc.2
  have k3' : Ch (fun j => v.ownBlock = some j) W w3 := (Below.ch b2).trans k3 (fun j _ q => q)
  have st : ∀ (k t : Nat) (cs : Array Value), W.heap[k]? = some (.cells cs t (0, 0)) → t ≠ 30 → w3.heap[k]? = some (.cells cs t (0, 0)) := fun k t cs e ht => (k3'.block k (Array.getElem?_eq_some_iff.1 e).1 (fun q => ne k t cs e ht k q rfl)).trans e
  have l3 := st _ _ _ hv (by decide)
  have gg : ∃ cur, w3.heap[g']? = some (.cells cur 30 (0, 0)) := own_lt k2 rfl
  obtain ⟨cur, hcur⟩ := gg
  have glb : g' ≠ lb := fun q => by rw [q, l3] at hcur; simp at hcur
  have hgB : n₀ ≤ g' := by
    rcases k4 with q | q
    · exact row_ge ro q
    · have := b2.size; omega
  have cc : Ch (fun j => j = lb ∨ v.ownBlock = some j) W (w3.setCell ⟨lb, 0, none⟩ (.slice (some ⟨g', 0, none⟩) (X.length + 1) cap')) := (k3'.mono (fun j _ q => .inr q)).trans (ch_set lb 0 _) (fun j _ q => .inl q)
  have st2 : ∀ (k t : Nat) (cs : Array Value), W.heap[k]? = some (.cells cs t (0, 0)) → t ≠ 30 → k ≠ lb → (w3.setCell ⟨lb, 0, none⟩ (.slice (some ⟨g', 0, none⟩) (X.length + 1) cap')).heap[k]? = some (.cells cs t (0, 0)) := fun k t cs e ht hk => (heap_set_ne _ hk).trans (st k t cs e ht)
  have plk : ∀ (u : Value) (xs : List Int), Pl W u xs → Pl (w3.setCell ⟨lb, 0, none⟩ (.slice (some ⟨g', 0, none⟩) (X.length + 1) cap')) u xs := fun u xs hu => own_to hu cc (fun g q cur e => by
    rcases q with q | q
    · rw [q, hv] at e; cases e
    · obtain ⟨c2, hc⟩ := hnb g q
      rw [hc] at e; cases e)
  refine ⟨g', cap', w3, k1, box_cells l3 0 v rfl, box_frozen l3 0, st _ _ _ h.n_ (by decide), ⟨st2 _ _ _ h.n_ (by decide) ?_, st2 _ _ _ h.w_ (by decide) ?_, ⟨_, heap_set l3 _, ?_⟩, ?_, h.lo⟩, ?_, ?_⟩
  · intro e
    have := h.n_
    rw [e, hv] at this
    cases this
  · intro e
    have := h.w_
    rw [e, hv] at this
    cases this
  · have := own_ch k2 (ch_set lb 0 (.slice (some ⟨g', 0, none⟩) (X.length + 1) cap')) (fun g hg q => by simp [Value.ownBlock] at hg; omega)
    rw [mrw_app, List.length_append]
    exact row_base (by simpa [mrw, mlc] using this) (fun g hg => by simp [Value.ownBlock] at hg; omega)
  · intro x hx
    rcases List.mem_append.1 hx with c | c
    · exact plk _ _ (h.pl x c)
    · rw [List.mem_singleton] at c
      rw [c]
      exact plk _ _ hp
  · have hlo := h.lo
    refine ⟨⟨cc.os, cc.tape, cc.output, cc.size, fun k hk => cc.block k (by omega) (fun q => ?_)⟩, fun k cs t fz e hx => (cc.block k (Array.getElem?_eq_some_iff.1 e).1 (fun q => ?_)).trans e⟩
    · rcases q with q | q
      · omega
      · have := row_ge ro q
        omega
    · rcases q with q | q
      · exact hx (.inr (.inl q))
      · obtain ⟨c2, hc⟩ := hnb k q
        rw [hc] at e
        cases e
        exact hx (.inl rfl)
  · intro k o e ho
    refine (cc.block k (Array.getElem?_eq_some_iff.1 e).1 (fun q => ?_)).trans e
    rcases q with q | q
    · rw [q, hv] at e
      cases e
      cases ho
    · obtain ⟨c2, hc⟩ := hnb k q
      rw [hc] at e
      cases e
      cases ho
set_option maxRecDepth 100000 in
set_option maxHeartbeats 4000000 in
/-- What given does with each message. -/
theorem given1_any {m : Msg} {pv : Value} (h : GS n₀ nb lb wb X W) (hn : n₀ ≤ W.heap.size) (hX : X.length ≤ 900000000) (hp : Pl W pv m.xs) :
    Calls Tryz.prog 30 #[m.val pv, ptr wb, ptr nb, ptr lb] W fun e W' => e = .returned (.bool true) ∧ GS n₀ nb lb wb (X ++ [(m, pv)]) W' ∧ Kn n₀ (Xg lb wb) W W' ∧ ∀ (k : Nat) (o : Obj), W.heap[k]? = some o → o.isCells = false → W'.heap[k]? = some o := by
  obtain ⟨pa, pc, rfl⟩ := own_sl hp
  obtain ⟨v, hv, ro⟩ := h.l_
  obtain ⟨va, vc, rfl⟩ := own_sl ro
  obtain ⟨wa, hwa⟩ : ∃ wa, wa = W.alloc (.cells #[.string m.t, .slice pa m.xs.length pc, .int .i64 m.q, .bool m.r] 30) := ⟨_, rfl⟩
  have ba : Below W.heap.size W wa := by rw [hwa]; exact (Below.refl _ _).alloc (Nat.le_refl _) _
  obtain ⟨g', cap', w3, k1, k2, k3, k4, k5, k6⟩ := gs_app h hn hX rfl hp ba hv
  have ga := h.below ba
  have x0 : wa.heap[W.heap.size]? = some (.cells #[.string m.t, .slice pa m.xs.length pc, .int .i64 m.q, .bool m.r] 30 (0, 0)) := by rw [hwa]; exact heap_alloc_new _ _
  obtain ⟨b0, b1, b2, b3⟩ := box4 x0
  have cw := box_cells ga.w_ 0 _ rfl
  have fw := box_frozen ga.w_ 0
  have cn := box_cells ga.n_ 0 _ rfl
  have cl := box_cells (later_at hv ba) 0 _ rfl
  have s0 := setCell_same ga.w_ (i := 0) (v := .bool true) rfl
  have hsz : wa.heap.size = W.heap.size + 1 := by rw [hwa]; exact Array.size_push _
  rw [hsz, hwa] at k1
  have HRUN := hidi k1
  have END := hidi (And.intro k5 k6)
  have d1 : (0 : Int) < 1 := by omega
  have dn : w3.cell? ⟨nb, 0, none⟩ = some (.int .i64 0) := box_cells k4 0 _ rfl
  have en : (w3.setCell ⟨lb, 0, none⟩ (.slice (some ⟨g', 0, none⟩) (X.length + 1) cap')).cell? ⟨nb, 0, none⟩ = some (.int .i64 0) := box_cells k5.n_ 0 _ rfl
  unfold ptr Msg.val Msg.cs
  rw [hwa] at b0 b1 b2 b3 cw fw cn cl s0
  clear h hn hX hp hv ro ba k1 k4 k5 k6 ga x0
  go_enter Tryz.func30, Tryz.ntmps30
  go_wp2_with (at_builtin; refine Lib.wpList_append_run _ rfl (.tmp 17) (.tmp 19) 22 22 rfl _ _ rfl rfl _ w3 HRUN.out ?_)
  go_ret
  exact ⟨rfl, END.out⟩
end Go.Proofs.YtipagdhoeocjeaaGreat.Li
