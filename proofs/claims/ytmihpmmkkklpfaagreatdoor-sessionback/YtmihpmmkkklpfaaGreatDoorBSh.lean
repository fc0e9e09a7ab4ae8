import Derived.Shelf.SlSortCmp.WholeK
import Derived.Test.YtmihpmmkkklpfaaGreatDoorTCd
import Derived.Test.YtmihpmmkkklpfaaGreatDoorSrtb
import Derived.Test.YtmihpmmkkklpfaaGreatDoorBSd
namespace Go.Proofs.YtmihpmmkkklpfaaGreatDoor
open Go Go.RowKit Go.Shelf Go.Sort
open Tq (cmpB cmpB_flip cmpB_zero cmpB_trans cmpB_self)
set_option linter.unusedSimpArgs false
set_option linter.unusedVariables false
/-! ### Asks by their filters -/
abbrev Sb := ByteArray × Int
def acs (x : Sb) : List Value := [.string x.1, .int .i64 x.2]
def arow (L : List Sb) : List Value := L.flatMap acs
theorem arow_len (L : List Sb) : (arow L).length = L.length * 2 := by
  induction L with
  | nil => rfl
  | cons x r ih =>
    show (acs x ++ arow r).length = _
    rw [List.length_append, ih]
    simp [acs]
    omega
theorem arow_get : ∀ (L : List Sb) (i : Nat) (x : Sb), L[i]? = some x → (arow L)[2 * i]? = some (.string x.1) ∧ (arow L)[2 * i + 1]? = some (.int .i64 x.2)
  | [], i, x, h => by simp at h
  | y :: r, 0, x, h => by
    simp at h
    subst h
    exact ⟨rfl, rfl⟩
  | y :: r, i + 1, x, h => by
    have := arow_get r i x (by simpa using h)
    exact this
def clip (x : ByteArray) : ByteArray := if x.size ≤ 1000000 then x else ⟨#[]⟩
theorem clip_le (x : ByteArray) : (clip x).size ≤ 1000000 := by
  unfold clip
  split
  · assumption
  · exact Nat.zero_le _
theorem clip_eq {x : ByteArray} (h : x.size ≤ 1000000) : clip x = x := if_pos h
def encA (x : Sb) : List Value := [.string (clip x.1), .int .i64 x.2]
def cfA (x y : Sb) : Int := cmpB (clip x.1) (clip y.1)
theorem encA_eq {x : Sb} (h : x.1.size ≤ 1000000) : encA x = acs x := by unfold encA acs; rw [clip_eq h]
theorem swoA : Go.Sort.SWO (ltOf cfA) := by
  refine ⟨fun x => by unfold ltOf cfA; rw [cmpB_self]; rfl, fun x y z h k => ?_, fun x y z h k => ?_⟩
  · skip
    unfold ltOf cfA at *
    have h' := of_decide_eq_true h
    have k' := of_decide_eq_true k
    have t := cmpB_trans (a := clip x.1) (b := clip y.1) (c := clip z.1) (by omega) (by omega)
    apply decide_eq_true
    by_cases e : cmpB (clip x.1) (clip z.1) = 0
    · have e' := cmpB_zero e
      rw [e'] at h'
      have := cmpB_flip (clip z.1) (clip y.1)
      omega
    · omega
  · skip
    unfold ltOf cfA at *
    have h' := of_decide_eq_false h
    have k' := of_decide_eq_false k
    have f1 := cmpB_flip (clip x.1) (clip y.1)
    have f2 := cmpB_flip (clip y.1) (clip z.1)
    have f3 := cmpB_flip (clip x.1) (clip z.1)
    have t := cmpB_trans (a := clip z.1) (b := clip y.1) (c := clip x.1) (by omega) (by omega)
    apply decide_eq_false
    omega
set_option maxHeartbeats 1000000 in
theorem byFilter_any (x y : Sb) (hx : x.1.size ≤ 1000000) (hy : y.1.size ≤ 1000000) (W : World) : Calls Tryz.prog 56 #[.agg #[.string x.1, .int .i64 x.2], .agg #[.string y.1, .int .i64 y.2]] W fun e w' => e = .returned (.int .i64 (cmpB x.1 y.1)) ∧ ∃ q os', w' = Go.Sort.grow (W.drewN q) os' := by
  have hcon := fun W' => Tq.compare_dr x.1 y.1 hx hy W'
  change ∀ W', Calls Tryz.prog 86 _ _ (fun e w' => e = .returned (.int .i64 (cmpB x.1 y.1)) ∧ _) at hcon
  generalize cmpB x.1 y.1 = r at hcon ⊢
  clear hx hy
  go_enter Tryz.func56, Tryz.ntmps56
  go_wp2_with (go_at_call 86; refine (hcon _).mono ?_; rintro e w' ⟨rfl, q, rfl⟩)
  go_ret
  exact ⟨rfl, q, _, by rw [Go.Sort.alloc_eq_grow, Go.Sort.alloc_eq_grow, Go.Sort.grow_grow]; rfl⟩
theorem cmpLaysA (blk off size : Nat) (w : World) : CmpLays Tryz.prog 56 #[] encA 2 cfA blk off size w :=
  fun m os dk hs x y => byFilter_any (clip x.1, x.2) (clip y.1, y.2) (clip_le _) (clip_le _) _
theorem flatA (d : List Sb) (h : ∀ x ∈ d, x.1.size ≤ 1000000) : (flatK encA 2 d.toArray).toList = arow d := by
  apply List.ext_getElem
  · simp [arow_len]
  · intro t h1 h2
    have ht : t < d.length * 2 := by simpa using h1
    have hi : t / 2 < d.length := by omega
    have e0 : d.toArray[t / 2]! = d[t / 2] := by simp [hi]
    have g := get_flatK encA 2 d.toArray t (by simpa using ht)
    rw [getElem!_pos _ t (by simpa using ht), e0, encA_eq (h _ (List.getElem_mem hi))] at g
    have a := arow_get d (t / 2) d[t / 2] (List.getElem?_eq_getElem hi)
    rw [Array.getElem_toList, g]
    rw [List.getElem?_eq_some_iff] at a
    rcases Nat.mod_two_eq_zero_or_one t with q | q
    · obtain ⟨_, a1⟩ := a.1
      have e : 2 * (t / 2) = t := by omega
      simp only [e] at a1
      rw [a1, q]
      rfl
    · have a2 := a.2
      rw [List.getElem?_eq_some_iff] at a2
      obtain ⟨_, a1⟩ := a2
      have e : 2 * (t / 2) + 1 = t := by omega
      simp only [e] at a1
      rw [a1, q]
      rfl
theorem flatA' (d : Array Sb) (h : ∀ x ∈ d.toList, x.1.size ≤ 1000000) : (flatK encA 2 d).toList = arow d.toList := by
  have := flatA d.toList h
  simpa using this
/-- The row of asks, in another order. -/
theorem sortWK_old (w : World) (g m k : Nat) (ys : Array Sb) (os : Array Obj) (hk : k < w.heap.size) (hg : k ≠ g) : (sortWorldK encA 2 w g 0 m ys os).heap[k]? = w.heap[k]? := by
  have hs : (putRowK encA 2 (Go.Sort.ahead w m) g 0 ys).heap.size = w.heap.size := by simp [putRowK, Go.Sort.putRow, Go.Sort.mapBlock, Go.Sort.ahead]
  unfold sortWorldK
  rw [Go.Sort.heap_grow_old _ _ (by rw [hs]; exact hk)]
  show (w.heap.modify g _)[k]? = _
  rw [Array.getElem?_modify, if_neg (Ne.symm hg)]
theorem own_sortedA {w : World} {B g cap m : Nat} {xs : List Sb} {ys : Array Sb} {os : Array Obj} (ho : w.ownsRow B 42 2 (.slice (some ⟨g, 0, none⟩) xs.length cap) xs.length (arow xs)) (hl : ys.size = xs.length) (hy : ∀ x ∈ ys.toList, x.1.size ≤ 1000000) :
    (sortWorldK encA 2 w g 0 m ys os).ownsRow B 42 2 (.slice (some ⟨g, 0, none⟩) xs.length cap) xs.length (arow ys.toList) ∧ Below B w (sortWorldK encA 2 w g 0 m ys os) := by
  rcases ho with ⟨h1, ⟨h2, -⟩ | ⟨g', cap', cur, hv', hb, hg, hc1, hc2, hc3, hc4⟩⟩
  · cases h2
  simp only [Value.slice.injEq, Option.some.injEq, Addr.mk.injEq] at hv'
  obtain ⟨⟨rfl, -, -⟩, -, rfl⟩ := hv'
  have hgl : g < w.heap.size := (Array.getElem?_eq_some_iff.1 hg).1
  have hs : (putRowK encA 2 (Go.Sort.ahead w m) g 0 ys).heap.size = w.heap.size := by simp [putRowK, Go.Sort.putRow, Go.Sort.mapBlock, Go.Sort.ahead]
  refine ⟨⟨by rw [arow_len]; simp [hl], .inr ⟨g, cap, Go.Sort.putCells id 0 (flatK encA 2 ys) cur, rfl, hb, ?_, hc1, hc2, ?_, ?_⟩⟩, ⟨rfl, rfl, rfl, ?_, ?_⟩⟩
  · unfold sortWorldK
    rw [Go.Sort.heap_grow_old _ _ (by rw [hs]; exact hgl)]
    show (w.heap.modify g _)[g]? = _
    rw [Array.getElem?_modify, if_pos rfl, hg]
    rfl
  · simpa [Go.Sort.putCells] using hc3
  · rw [← flatA' ys hy]
    apply List.ext_getElem
    · simp [Go.Sort.putCells, hl]
      omega
    · intro i q1 q2
      have hi : i < ys.size * 2 := by simpa using q2
      have : i < (flatK encA 2 ys).size := by simpa using hi
      simp [Go.Sort.putCells, this]
      rw [if_pos hi, getElem!_pos _ i this]
  · unfold sortWorldK
    rw [Go.Sort.size_grow, hs]
    omega
  · intro k hk
    exact sortWK_old w g m k ys os (by omega) (by omega)
theorem holds_rowA {w : World} {B g cap : Nat} {xs : List Sb} (ho : w.ownsRow B 42 2 (.slice (some ⟨g, 0, none⟩) xs.length cap) xs.length (arow xs)) (hx : ∀ x ∈ xs, x.1.size ≤ 1000000) : HoldsK encA 2 w g 0 xs.toArray ∧ g < w.heap.size := by
  rcases ho with ⟨h1, ⟨h2, -⟩ | ⟨g', cap', cur, hv', hb, hg, hc1, hc2, hc3, hc4⟩⟩
  · cases h2
  simp only [Value.slice.injEq, Option.some.injEq, Addr.mk.injEq] at hv'
  obtain ⟨⟨rfl, -, -⟩, -, rfl⟩ := hv'
  refine ⟨fun j hj => ?_, (Array.getElem?_eq_some_iff.1 hg).1⟩
  have hj' : j < xs.length * 2 := by simpa using hj
  have e1 : (flatK encA 2 xs.toArray)[j]! = (arow xs)[j]'(by rw [arow_len]; exact hj') := by
    rw [getElem!_pos _ j hj, ← Array.getElem_toList]
    simp only [flatA xs hx]
  have e3 : cur[j]? = some ((arow xs)[j]'(by rw [arow_len]; exact hj')) := by
    have := congrArg (fun l => l[j]?) hc4
    simp only [List.getElem?_take, if_pos hj', List.getElem?_eq_getElem (show j < (arow xs).length by rw [arow_len]; exact hj')] at this
    simpa using this
  rw [e1, Nat.zero_add]
  refine ⟨?_, ?_⟩
  · simp [World.cell?, hg, e3]
  · simp [World.frozen?, hg]
set_option maxRecDepth 100000 in
set_option maxHeartbeats 2000000 in
theorem insA_none (p : Option Addr) (cap : Nat) (fv : Value) (w : World) : Calls Tryz.prog 106 #[.slice p 0 cap, .int .i64 0, .int .i64 0, fv] w fun e w' => e = .returned (.tuple #[]) ∧ w' = w := by
  go_enter Tryz.func106, Tryz.ntmps106
  go_wp2
  refine wp_loop_rounds 1 ?_
  rw [rounds_succ]
  go_wp2
  go_end0
  exact ⟨rfl, rfl⟩
set_option maxRecDepth 100000 in
set_option maxHeartbeats 2000000 in
theorem pdqA_none (p : Option Addr) (cap : Nat) (lim : Int) (fv : Value) (w : World) : Calls Tryz.prog 84 #[.slice p 0 cap, .int .i64 0, .int .i64 0, .int .i64 lim, fv] w fun e w' => e = .returned (.tuple #[]) ∧ w' = w := by
  go_enter Tryz.func84, Tryz.ntmps84
  go_wp2
  refine wp_loop_rounds 1 ?_
  rw [rounds_succ]
  go_wp2_with (go_at_call 106; refine (insA_none _ _ _ _).mono ?_; rintro e w' ⟨rfl, rfl⟩)
  (try simp only [Exit.inBlock, Exit.then]); refine bodyPost_ret (results_none rfl _ _ _) rfl ?_
  exact ⟨rfl, rfl⟩
theorem lenA_none (w : World) : Calls Tryz.prog 85 #[.int .u64 0] w fun e w' => e = .returned (.int .i64 (Lib.bitLen 0 : Nat)) ∧ w' = w :=
  Any.bits_Len (SlLaysF0.n15.bits (P := Tryz.prog) (ρ := Tryz.sfa_ren) { Tryz.sfa with }) 0 w (by omega) (by omega)
set_option maxHeartbeats 2000000 in
theorem sortA_none (p : Option Addr) (cap : Nat) (fv : Value) (w : World) : Calls Tryz.prog 55 #[.slice p 0 cap, fv] w fun e w' => e = .returned (.tuple #[]) ∧ w' = w := by
  have hl := lenA_none w
  go_enter Tryz.func55, Tryz.ntmps55
  go_wp2_with (first | (go_at_call 85; refine hl.mono ?_; rintro e w' ⟨rfl, rfl⟩) | (go_at_call 84; refine (pdqA_none _ _ _ _ _).mono ?_; rintro e w' ⟨rfl, rfl⟩))
  go_end0
  exact ⟨rfl, rfl⟩
/-- Asks in their filters' order. -/
def ByF (L : List Sb) : Prop := L.Pairwise fun a b => cmpB a.1 b.1 ≤ 0
theorem sortA_any (xs : List Sb) (v : Value) (w : World) (B : Nat) (ho : w.ownsRow B 42 2 v xs.length (arow xs)) (hl : xs.length ≤ 1000000) (hx : ∀ x ∈ xs, x.1.size ≤ 1000000) :
    Calls Tryz.prog 55 #[v, .func (.func 56) #[] #[]] w fun e w' => e = .returned (.tuple #[]) ∧ ∃ ys, ys.Perm xs ∧ ByF ys ∧ w'.ownsRow B 42 2 v ys.length (arow ys) ∧ Below B w w' := by
  by_cases h0 : xs = []
  · subst h0
    obtain ⟨a, c, rfl⟩ : ∃ a c, v = .slice a 0 c := by
      rcases ho with ⟨-, ⟨h2, -⟩ | ⟨g', cap', cur, hv', -⟩⟩
      · exact ⟨_, _, h2⟩
      · exact ⟨_, _, hv'⟩
    refine (sortA_none a c (.func (.func 56) #[] #[]) w).mono ?_
    rintro e w' ⟨rfl, rfl⟩
    exact ⟨rfl, [], List.Perm.refl _, List.Pairwise.nil, ho, Below.refl _ _⟩
  · have hp : 0 < xs.length := List.length_pos_iff.2 h0
    obtain ⟨g, c, rfl⟩ : ∃ g c, v = .slice (some ⟨g, 0, none⟩) xs.length c := by
      rcases ho with ⟨-, ⟨-, h2⟩ | ⟨g', cap', cur, hv', -⟩⟩
      · omega
      · exact ⟨_, _, hv'⟩
    obtain ⟨hH, hg⟩ := holds_rowA ho hx
    have h := AnyQ.slices_SortFunc (P := Tryz.prog) (ρ := Tryz.sfa_ren) Tryz.sfa 2 Tryz.isAgg42 Tryz.sizeOf42 encA (fun _ => rfl) (fun x v hv => by simp [encA] at hv; rcases hv with rfl | rfl <;> rfl) cfA swoA 56 #[] g 0 c xs.toArray w (enters_of Tryz.func56 (by kernel_rfl) rfl) (cmpLaysA g 0 _ w) hH hg (by simp; omega)
    have e1 : xs.toArray.size = xs.length := by simp
    rw [e1] at h
    refine Calls.mono (f := 55) h ?_
    rintro e w' ⟨rfl, d', n, os, ⟨hsz, -, hperm⟩, hS, rfl⟩
    have e2 : d'.extract 0 xs.length = d' := by rw [← e1, ← hsz]; exact Array.extract_size
    have e3 : xs.toArray.extract 0 xs.length = xs.toArray := by rw [← e1]; exact Array.extract_size
    rw [e2, e3] at hperm
    have hperm' : d'.toList.Perm xs := by simpa using hperm
    have hle : ∀ x ∈ d'.toList, x.1.size ≤ 1000000 := fun x hx' => hx x (hperm'.mem_iff.1 hx')
    have hd : d'.size = xs.length := by rw [hsz, e1]
    have hSd : ByF d'.toList := by
      unfold ByF
      rw [List.pairwise_iff_getElem]
      intro i j hi hj hij
      have hi' : i < d'.size := by simpa using hi
      have hj' : j < d'.size := by simpa using hj
      have := hS i j (Nat.zero_le _) hij (by omega)
      rw [getElem!_pos d' j hj', getElem!_pos d' i hi'] at this
      unfold ltOf cfA at this
      have h1 := of_decide_eq_false this
      rw [clip_eq (hle _ (by simp)), clip_eq (hle _ (by simp))] at h1
      have := cmpB_flip d'[i].1 d'[j].1
      simp only [Array.getElem_toList]
      omega
    have := own_sortedA (m := n) (os := os) (ys := d') ho hd hle
    refine ⟨rfl, d'.toList, hperm', hSd, ?_, this.2⟩
    rw [show d'.toList.length = xs.length by simpa using hd]
    exact this.1
end Go.Proofs.YtmihpmmkkklpfaaGreatDoor
namespace Go.Proofs.YtmihpmmkkklpfaaGreatDoor
open Go Go.RowKit Go.Maps
set_option linter.unusedSimpArgs false
set_option linter.unusedVariables false
/-! ### Subscribe -/
theorem MG.ne {w : World} {mb b n : Nat} {f : ByteArray → Option Value} {cs : Array Value} {t : Nat} {fz : Nat × Nat} (h : MG w (.map (some mb)) n f) (hb : w.heap[b]? = some (.cells cs t fz)) : b ≠ mb := fun e => by
  obtain ⟨es, cl, q⟩ := h.block (b := mb) rfl
  rw [e, q] at hb
  cases hb
theorem eqn53 (mb : Nat) (w : World) : (binOp .eql 53 (.map (some mb)) (.map none)).run Tryz.prog w = .ok (.bool false) w := eqn _ _ _ _ Tryz.underlying53 w
theorem eqn53n (w : World) : (binOp .eql 53 (.map none) (.map none)).run Tryz.prog w = .ok (.bool true) w := eqn _ _ _ _ Tryz.underlying53 w
section
variable {W : World} {sb wb : Nat} {k : ByteArray} {la : Bool} {mo : Int} {sv nv : Value} {n : Nat} {f : ByteArray → Option Value}
/-- What grant leaves. -/
structure Gr (W w' : World) (sb wb : Nat) (k : ByteArray) (la : Bool) (mo : Int) (sv nv : Value) (n : Nat) (f : ByteArray → Option Value) (fl : ByteArray) (q : Int) : Prop where
  ex : ∃ mb, SsAt w' sb wb k la mo (.map (some mb)) nv ∧ MG w' (.map (some mb)) (szG f fl n) (setG f fl (some (.int .i64 q))) ∧ (sv = .map (some mb) ∨ W.heap.size ≤ mb)
  ch : Ch (fun j => j = sb ∨ sv = .map (some j)) W w'
set_option maxRecDepth 100000 in
set_option maxHeartbeats 4000000 in
theorem grant_some {mb : Nat} (h : SsAt W sb wb k la mo (.map (some mb)) nv) (hm : MG W (.map (some mb)) n f) (fl : ByteArray) (hf : fl.size ≤ 1000000) (q : Int) (hn : n < 1000000) :
    Calls Tryz.prog 41 #[.pointer (some ⟨sb, 0, none⟩), .agg #[.string fl, .int .i64 q]] W fun e w' => e = .returned (.tuple #[]) ∧ Gr W w' sb wb k la mo (.map (some mb)) nv n f fl q := by
  obtain ⟨w1, hw1⟩ : ∃ w1, w1 = W.alloc (.cells #[.string fl, .int .i64 q] 42) := ⟨_, rfl⟩
  have x1 := heap_alloc_new W (.cells #[.string fl, .int .i64 q] 42)
  have b1 : Below W.heap.size W (W.alloc (.cells #[.string fl, .int .i64 q] 42)) := (Below.refl _ _).alloc (Nat.le_refl _) _
  rw [← hw1] at x1 b1
  have e0 := box_cells x1 0 _ rfl
  have e1 := box_cells x1 1 _ rfl
  have a4 : w1.cell? ⟨sb, 4, none⟩ = some (.map (some mb)) := box_cells (h.below b1) 4 _ rfl
  have CL := hidi (fun w => sclone_any fl w hf)
  have heq := eqn53 mb
  have KB := hidi (fun (w2 : World) (hb : Below w1.heap.size w1 w2) => (show w2.cell? ⟨sb, 4, none⟩ = some (.map (some mb)) ∧ w2.cell? ⟨W.heap.size, 0, none⟩ = some (.string fl) ∧ w2.cell? ⟨W.heap.size, 1, none⟩ = some (.int .i64 q) from ⟨box_cells ((h.below b1).below hb) 4 _ rfl, box_cells (later_at x1 hb) 0 _ rfl, box_cells (later_at x1 hb) 1 _ rfl⟩))
  have HG := hidi (fun (w2 : World) (hb : Below w1.heap.size w1 w2) => (show ∃ w3, (Instr.mapUpdate 53 (.map (some mb)) (.string fl) (.int .i64 q)).run Tryz.prog w2 = .ok () w3 ∧ (w3.cell? ⟨sb, 4, none⟩ = some (.map (some mb)) ∧ w3.cell? ⟨W.heap.size, 0, none⟩ = some (.string fl) ∧ w3.cell? ⟨W.heap.size, 1, none⟩ = some (.int .i64 q)) ∧ Gr W w3 sb wb k la mo (.map (some mb)) nv n f fl q from by
    have hb2 := b1.trans (hb.mono b1.size)
    have hm2 : MG w2 (.map (some mb)) n f := hm.keep (fun b e => hb2.block b (hm.lt e))
    obtain ⟨w3, k1, k2, k3⟩ := hm2.put (t := 53) Tryz.underlying53 (k := fl) (by unfold okT maxLen; omega) (.int .i64 q) (by unfold maxLen; omega)
    have s2 := h.below hb2
    have s3 : SsAt w3 sb wb k la mo (.map (some mb)) nv := (k3.block sb (Array.getElem?_eq_some_iff.1 s2).1 (hm2.ne s2)).trans s2
    have x2 := later_at x1 hb
    have x3 := (k3.block _ (Array.getElem?_eq_some_iff.1 x2).1 (hm2.ne x2)).trans x2
    refine ⟨w3, k1, ⟨box_cells s3 4 _ rfl, box_cells x3 0 _ rfl, box_cells x3 1 _ rfl⟩, ⟨⟨mb, s3, k2, .inl rfl⟩, ?_⟩⟩
    exact (Below.ch (S := fun j => j = sb ∨ Value.map (some mb) = .map (some j)) hb2).trans k3 (fun j _ e => .inr (by rw [e]))))
  clear h hm hf hn x1 b1
  go_enter Tryz.func41, Tryz.ntmps41
  go_upto_region 1 with fail
  rw [← hw1]
  clear hw1
  go_upto_region 3 with fail
  clear heq
  go_region_held_law (fun w' => w'.cell? ⟨sb, 4, none⟩ = some (.map (some mb)) ∧ w'.cell? ⟨W.heap.size, 0, none⟩ = some (.string fl) ∧ w'.cell? ⟨W.heap.size, 1, none⟩ = some (.int .i64 q)) (first | exact HK3.out | exact ⟨a4, e0, e1⟩ | go_keep) (first
    | (go_at_call 34; refine (CL.out _).mono ?_; rintro e w2 ⟨rfl, hb⟩; obtain ⟨w3, hm, hk, hr⟩ := HG.out w2 ((Below.refl w1.heap.size w1).drew.trans hb); have HK3 := hidi hk; have HR := hidi hr; clear a4 e0 e1; obtain ⟨a4, e0, e1⟩ := KB.out w2 ((Below.refl w1.heap.size w1).drew.trans hb); clear hb hk hr))
  all_goals go_end0
  all_goals exact ⟨rfl, HR.out⟩
theorem mk53 (W : World) : (Instr.makeMap 53 none).run Tryz.prog W = .ok (.map (some W.heap.size)) (W.alloc (.map #[] 0)) := by simp [Instr.makeMap, run_underlying Tryz.underlying53]; try rfl
set_option maxRecDepth 100000 in
set_option maxHeartbeats 4000000 in
theorem grant_nil (h : SsAt W sb wb k la mo (.map none) nv) (fl : ByteArray) (hf : fl.size ≤ 1000000) (q : Int) :
    Calls Tryz.prog 41 #[.pointer (some ⟨sb, 0, none⟩), .agg #[.string fl, .int .i64 q]] W fun e w' => e = .returned (.tuple #[]) ∧ Gr W w' sb wb k la mo (.map none) nv 0 (fun _ => none) fl q := by
  obtain ⟨w1, hw1⟩ : ∃ w1, w1 = W.alloc (.cells #[.string fl, .int .i64 q] 42) := ⟨_, rfl⟩
  have x1 := heap_alloc_new W (.cells #[.string fl, .int .i64 q] 42)
  have b1 : Below W.heap.size W (W.alloc (.cells #[.string fl, .int .i64 q] 42)) := (Below.refl _ _).alloc (Nat.le_refl _) _
  rw [← hw1] at x1 b1
  have e0 := box_cells x1 0 _ rfl
  have e1 := box_cells x1 1 _ rfl
  have h1 := h.below b1
  have a4 : w1.cell? ⟨sb, 4, none⟩ = some (.map none) := box_cells h1 4 _ rfl
  have f4 : w1.frozen? ⟨sb, 4, none⟩ = false := box_frozen h1 4
  have hsl : sb < w1.heap.size := (Array.getElem?_eq_some_iff.1 h1).1
  have hsw : sb < W.heap.size := (Array.getElem?_eq_some_iff.1 h).1
  have CL := hidi (fun w => sclone_any fl w hf)
  have heq := eqn53n
  have hmk := mk53
  obtain ⟨w2, hw2⟩ : ∃ w2, w2 = (w1.setCell ⟨sb, 4, none⟩ (.map (some w1.heap.size))).alloc (.map #[] 0) := ⟨_, rfl⟩
  have hsz : (w1.setCell ⟨sb, 4, none⟩ (.map (some w1.heap.size))).heap.size = w1.heap.size := by simp [World.setCell]
  have s2 : SsAt w2 sb wb k la mo (.map (some w1.heap.size)) nv := by
    rw [hw2]
    unfold SsAt
    rw [heap_alloc_old _ _ (by rw [hsz]; exact hsl), heap_set h1]
    rfl
  have m2 : MG w2 (.map (some w1.heap.size)) 0 (fun _ => none) := by
    rw [hw2]
    have := MG.made (w1.setCell ⟨sb, 4, none⟩ (.map (some w1.heap.size)))
    rw [hsz] at this
    exact this
  have y2 : w2.heap[W.heap.size]? = some (.cells #[.string fl, .int .i64 q] 42) := by
    rw [hw2, heap_alloc_old _ _ (by rw [hsz]; exact (Array.getElem?_eq_some_iff.1 x1).1), heap_set_ne _ (by omega)]
    exact x1
  have c2 : Ch (fun j => j = sb ∨ Value.map none = .map (some j)) W w2 := by
    rw [hw2]
    exact ((Below.ch (S := fun j => j = sb) b1).then ((ch_set sb 4 _).then (ch_alloc _ _ _))).mono (fun j _ q => .inl q)
  have hms : W.heap.size ≤ w1.heap.size := b1.size
  have g0 := box_cells y2 0 _ rfl
  have g1 := box_cells y2 1 _ rfl
  have g4 : w2.cell? ⟨sb, 4, none⟩ = some (.map (some w1.heap.size)) := box_cells s2 4 _ rfl
  have KB := hidi (fun (w3 : World) (hb : Below w2.heap.size w2 w3) => (show w3.cell? ⟨sb, 4, none⟩ = some (.map (some w1.heap.size)) ∧ w3.cell? ⟨W.heap.size, 0, none⟩ = some (.string fl) ∧ w3.cell? ⟨W.heap.size, 1, none⟩ = some (.int .i64 q) from ⟨box_cells (s2.below hb) 4 _ rfl, box_cells (later_at y2 hb) 0 _ rfl, box_cells (later_at y2 hb) 1 _ rfl⟩))
  have HG := hidi (fun (w3 : World) (hb : Below w2.heap.size w2 w3) => (show ∃ w4, (Instr.mapUpdate 53 (.map (some w1.heap.size)) (.string fl) (.int .i64 q)).run Tryz.prog w3 = .ok () w4 ∧ (w4.cell? ⟨sb, 4, none⟩ = some (.map (some w1.heap.size)) ∧ w4.cell? ⟨W.heap.size, 0, none⟩ = some (.string fl) ∧ w4.cell? ⟨W.heap.size, 1, none⟩ = some (.int .i64 q)) ∧ Gr W w4 sb wb k la mo (.map none) nv 0 (fun _ => none) fl q from by
    have hm3 : MG w3 (.map (some w1.heap.size)) 0 (fun _ => none) := m2.keep (fun b e => hb.block b (m2.lt e))
    obtain ⟨w4, k1, k2, k3⟩ := hm3.put (t := 53) Tryz.underlying53 (k := fl) (by unfold okT maxLen; omega) (.int .i64 q) (by unfold maxLen; omega)
    have s3 := s2.below hb
    have s4 : SsAt w4 sb wb k la mo (.map (some w1.heap.size)) nv := (k3.block sb (Array.getElem?_eq_some_iff.1 s3).1 (hm3.ne s3)).trans s3
    have x3 := later_at y2 hb
    have x4 := (k3.block _ (Array.getElem?_eq_some_iff.1 x3).1 (hm3.ne x3)).trans x3
    refine ⟨w4, k1, ⟨box_cells s4 4 _ rfl, box_cells x4 0 _ rfl, box_cells x4 1 _ rfl⟩, ⟨⟨w1.heap.size, s4, k2, .inr hms⟩, ?_⟩⟩
    exact (c2.then (Below.ch hb)).trans k3 (fun j hj e => absurd hj (by omega))))
  clear h hf x1 b1 h1 s2 m2 y2 c2 hms
  go_enter Tryz.func41, Tryz.ntmps41
  go_upto_region 1 with fail
  rw [← hw1]
  clear hw1
  go_upto_region 3 with fail
  rw [← hw2]
  clear heq hmk hw2 a4 e0 e1 f4
  go_region_held_law (fun w' => w'.cell? ⟨sb, 4, none⟩ = some (.map (some w1.heap.size)) ∧ w'.cell? ⟨W.heap.size, 0, none⟩ = some (.string fl) ∧ w'.cell? ⟨W.heap.size, 1, none⟩ = some (.int .i64 q)) (first | exact HK3.out | exact ⟨g4, g0, g1⟩ | go_keep) (first
    | (go_at_call 34; refine (CL.out _).mono ?_; rintro e w3 ⟨rfl, hb⟩; obtain ⟨w4, hm, hk, hr⟩ := HG.out w3 ((Below.refl w2.heap.size w2).drew.trans hb); have HK3 := hidi hk; have HR := hidi hr; clear g4 g0 g1; obtain ⟨g4, g0, g1⟩ := KB.out w3 ((Below.refl w2.heap.size w2).drew.trans hb); clear hb hk hr))
  all_goals go_end0
  all_goals exact ⟨rfl, HR.out⟩
end
end Go.Proofs.YtmihpmmkkklpfaaGreatDoor
namespace Go.Proofs.YtmihpmmkkklpfaaGreatDoor
open Go Go.RowKit Go.Maps
set_option linter.unusedSimpArgs false
set_option linter.unusedVariables false
/-! ### Taking out -/
theorem deln53 (k : ByteArray) (hk : k.size ≤ 1000000) (w : World) (ty : TypeId) : (Builtin.delete_ #[53, 9] ty #[.map none, .string k]).run Tryz.prog w = .ok (.tuple #[]) w := by
  have hl := keyOf_kt (k := k) (by unfold okT maxLen; omega)
  first
  | exact Maps.drop_nil law9 Tryz.underlying53 hl ty
  | simp [Builtin.delete_, run_underlying Tryz.underlying53]
theorem deln54 (k : Int) (hk : okI k) (w : World) (ty : TypeId) : (Builtin.delete_ #[54, 3] ty #[.map none, .int .i64 k]).run Tryz.prog w = .ok (.tuple #[]) w := by
  have hl := keyOf_ki hk
  first
  | exact Maps.drop_nil law3 Tryz.underlying54 hl ty
  | simp [Builtin.delete_, run_underlying Tryz.underlying54]
set_option maxRecDepth 100000 in
set_option maxHeartbeats 1000000 in
theorem without57 {w : World} {mb : Nat} {f : ByteArray → Option Value} (hm : MG w (.map (some mb)) 1 f) (fl : ByteArray) (hfs : fl.size ≤ 1000000) {v : Value} (hf : f fl = some v) : Calls Tryz.prog 57 #[.map (some mb), .string fl] w fun e w' => e = .returned (.map none) ∧ Ch (fun j => j = mb) w w' := by
  obtain ⟨w2, h1, h2, h3⟩ := hm.del (t := 53) Tryz.underlying53 (k := fl) (by unfold okT maxLen; omega) 0
  rw [hf] at h2
  have hlen := h2.len (t := 53) Tryz.underlying53 3
  simp at hlen
  have H := hidi h3
  clear hm h2 h3 hf
  go_enter Tryz.func57, Tryz.ntmps57
  go_wp2_with fail
  go_ret
  exact ⟨rfl, H.out⟩
set_option maxRecDepth 100000 in
set_option maxHeartbeats 1000000 in
theorem without57n (fl : ByteArray) (hfs : fl.size ≤ 1000000) (w : World) : Calls Tryz.prog 57 #[.map none, .string fl] w fun e w' => e = .returned (.map none) ∧ w' = w := by
  have hdel := fun ty => deln53 fl hfs w ty
  have hlen : ∀ ty, (Builtin.len_ #[53] ty #[.map none]).run Tryz.prog w = .ok (.int .i64 0) w := fun ty => Maps.len_nil Tryz.underlying53 ty
  go_enter Tryz.func57, Tryz.ntmps57
  go_wp2_with fail
  go_ret
  exact ⟨rfl, rfl⟩
set_option maxRecDepth 100000 in
set_option maxHeartbeats 1000000 in
theorem without58 {w : World} {mb : Nat} {f : Int → Option Value} (hm : MI w (.map (some mb)) 1 f) (id : Int) (hid : okI id) {v : Value} (hf : f id = some v) : Calls Tryz.prog 58 #[.map (some mb), .int .i64 id] w fun e w' => e = .returned (.map none) ∧ Ch (fun j => j = mb) w w' := by
  obtain ⟨w2, h1, h2, h3⟩ := hm.del (t := 54) Tryz.underlying54 (k := id) hid 0
  rw [hf] at h2
  have hlen := h2.len (t := 54) Tryz.underlying54 3
  simp at hlen
  have H := hidi h3
  clear hm h2 h3 hf
  go_enter Tryz.func58, Tryz.ntmps58
  go_wp2_with fail
  go_ret
  exact ⟨rfl, H.out⟩
set_option maxRecDepth 100000 in
set_option maxHeartbeats 1000000 in
theorem without58n (id : Int) (hid : okI id) (w : World) : Calls Tryz.prog 58 #[.map none, .int .i64 id] w fun e w' => e = .returned (.map none) ∧ w' = w := by
  have hdel := fun ty => deln54 id hid w ty
  have hlen : ∀ ty, (Builtin.len_ #[54] ty #[.map none]).run Tryz.prog w = .ok (.int .i64 0) w := fun ty => Maps.len_nil Tryz.underlying54 ty
  go_enter Tryz.func58, Tryz.ntmps58
  go_wp2_with fail
  go_ret
  exact ⟨rfl, rfl⟩
theorem zero3 (w : World) : (zeroValue 3).run Tryz.prog w = .ok (.int .i64 0) w := by kernel_rfl
theorem zero88 (w : World) : (zeroValue 88).run Tryz.prog w = .ok (.agg #[]) w := by kernel_rfl
theorem set4 {w : World} {sb wb : Nat} {k : ByteArray} {la : Bool} {mo : Int} {sv nv : Value} (h : SsAt w sb wb k la mo sv nv) (v : Value) : SsAt (w.setCell ⟨sb, 4, none⟩ v) sb wb k la mo v nv := (heap_set h v).trans rfl
theorem set5 {w : World} {sb wb : Nat} {k : ByteArray} {la : Bool} {mo : Int} {sv nv : Value} (h : SsAt w sb wb k la mo sv nv) (v : Value) : SsAt (w.setCell ⟨sb, 5, none⟩ v) sb wb k la mo sv v := (heap_set h v).trans rfl
section
variable {W : World} {sb wb : Nat} {k : ByteArray} {la : Bool} {mo : Int} {sv nv : Value}
set_option maxRecDepth 100000 in
set_option maxHeartbeats 1000000 in
theorem unsub_has {mb : Nat} {f : ByteArray → Option Value} {x : Int} (h : SsAt W sb wb k la mo (.map (some mb)) nv) (hm : MG W (.map (some mb)) 1 f) (fl : ByteArray) (hfs : fl.size ≤ 1000000) (hf : f fl = some (.int .i64 x)) :
    Calls Tryz.prog 30 #[.pointer (some ⟨sb, 0, none⟩), .string fl] W fun e w' => e = .returned (.bool true) ∧ SsAt w' sb wb k la mo (.map none) nv ∧ Ch (fun j => j = sb ∨ j = mb) W w' := by
  have hl := hm.look2 (t := 53) Tryz.underlying53 zero3 (k := fl) (by unfold okT maxLen; omega)
  rw [hf] at hl
  simp only [Option.getD_some, Option.isSome_some] at hl
  have a4 : W.cell? ⟨sb, 4, none⟩ = some (.map (some mb)) := box_cells h 4 _ rfl
  have hne := hm.ne h
  have H := hidi h
  have WO := hidi (without57 hm fl hfs hf)
  have hsl : sb < W.heap.size := (Array.getElem?_eq_some_iff.1 h).1
  clear h hm hf
  go_enter Tryz.func30, Tryz.ntmps30
  go_wp2_with fail
  go_must (go_at_call 57)
  refine WO.out.mono ?_
  clear WO
  rintro e w2 ⟨rfl, hc⟩
  have h2 : SsAt w2 sb wb k la mo (.map (some mb)) nv := (hc.block sb hsl hne).trans H.out
  have f4 := box_frozen h2 4
  have c4 : w2.cell? ⟨sb, 4, none⟩ = some (.map (some mb)) := box_cells h2 4 _ rfl
  have HH := hidi (And.intro h2 hc)
  clear h2 hc hl a4
  go_wp2_with fail
  go_ret
  exact ⟨rfl, set4 HH.out.1 _, (HH.out.2.mono (fun j _ q => .inr q)).trans (ch_set sb 4 _) (fun j _ q => .inl q)⟩
set_option maxRecDepth 100000 in
set_option maxHeartbeats 1000000 in
theorem unsub_nil (h : SsAt W sb wb k la mo (.map none) nv) (fl : ByteArray) (hfs : fl.size ≤ 1000000) :
    Calls Tryz.prog 30 #[.pointer (some ⟨sb, 0, none⟩), .string fl] W fun e w' => e = .returned (.bool false) ∧ SsAt w' sb wb k la mo (.map none) nv ∧ Ch (fun j => j = sb) W w' := by
  have hl := (MG.nil W).look2 (t := 53) Tryz.underlying53 zero3 (k := fl) (by unfold okT maxLen; omega)
  simp only [Option.getD_none, Option.isSome_none] at hl
  have a4 : W.cell? ⟨sb, 4, none⟩ = some (.map none) := box_cells h 4 _ rfl
  have f4 := box_frozen h 4
  have H := hidi h
  have WO := hidi (without57n fl hfs)
  clear h
  go_enter Tryz.func30, Tryz.ntmps30
  go_wp2_with (go_at_call 57; refine (WO.out _).mono ?_; rintro e w2 ⟨rfl, rfl⟩)
  go_ret
  exact ⟨rfl, set4 H.out _, ch_set sb 4 _⟩
end
end Go.Proofs.YtmihpmmkkklpfaaGreatDoor
namespace Go.Proofs.YtmihpmmkkklpfaaGreatDoor
open Go Go.RowKit Go.Maps
set_option linter.unusedSimpArgs false
set_option linter.unusedVariables false
/-! ### Taking out of any map -/
set_option maxRecDepth 100000 in
set_option maxHeartbeats 1000000 in
theorem without57_any {w : World} {sv : Value} {n : Nat} {f : ByteArray → Option Value} (hm : MG w sv n f) (fl : ByteArray) (hfs : fl.size ≤ 1000000) : Calls Tryz.prog 57 #[sv, .string fl] w fun e w' => ∃ sv', e = .returned sv' ∧ MG w' sv' (n - (if (f fl).isSome then 1 else 0)) (setG f fl none) ∧ (sv' = .map none ∨ sv' = sv) ∧ Ch (fun j => sv = .map (some j)) w w' := by
  rcases hm.mk with rfl | ⟨mb, rfl⟩
  · refine (without57n fl hfs w).mono ?_
    rintro e w' ⟨rfl, rfl⟩
    have hz : ∀ k, okT k → f k = none ∧ n = 0 := by
      rcases hm with ⟨_, h1, h2⟩ | ⟨mb, D, h1, _⟩
      · exact fun k hk => ⟨h2 k hk, h1⟩
      · cases h1
    have hfl := (hz fl (by unfold okT maxLen; omega))
    rw [hfl.1, hfl.2]
    refine ⟨_, rfl, (MG.nil w').congr (fun k hk => ?_), .inl rfl, Ch.refl _ _⟩
    unfold setG
    split
    · rfl
    · exact (hz k hk).1
  · obtain ⟨w2, h1, h2, h3⟩ := hm.del (t := 53) Tryz.underlying53 (k := fl) (by unfold okT maxLen; omega) 0
    obtain ⟨m, hmn⟩ : ∃ m, m = n - (if (f fl).isSome then 1 else 0) := ⟨_, rfl⟩
    rw [← hmn] at h2 ⊢
    have hlen := h2.len (t := 53) Tryz.underlying53 3
    have H := hidi (And.intro h2 (h3.mono (S' := fun j => Value.map (some mb) = .map (some j)) (fun j _ e => by rw [e])))
    clear hm h2 h3 hmn
    by_cases h0 : m = 0
    · subst h0
      simp at hlen
      go_enter Tryz.func57, Tryz.ntmps57
      go_wp2_with fail
      go_ret
      have hz : ∀ k, okT k → setG f fl none k = none := by
        rcases H.out.1 with ⟨_, h1, h2⟩ | ⟨mb, D, h1, h2, h3, h4⟩
        · exact h2
        · intro k hk
          obtain ⟨es, rfl, _⟩ := h2.entries law9
          have he : es = [] := List.length_eq_zero_iff.1 h3
          subst he
          have := (h4 k hk).1
          cases hs : setG f fl none k with
          | none => rfl
          | some x =>
            rw [hs] at this
            simp [Maps.has] at this
      exact ⟨_, rfl, (MG.nil w2).congr hz, .inl rfl, H.out.2⟩
    · have hne : ((m : Int) == 0) = false := by simpa using h0
      go_enter Tryz.func57, Tryz.ntmps57
      go_wp2_with fail
      go_ret
      exact ⟨_, rfl, H.out.1, .inr rfl, H.out.2⟩
set_option maxRecDepth 100000 in
set_option maxHeartbeats 1000000 in
theorem without58_any {w : World} {nv : Value} {n : Nat} {f : Int → Option Value} (hm : MI w nv n f) (id : Int) (hid : okI id) : Calls Tryz.prog 58 #[nv, .int .i64 id] w fun e w' => ∃ nv', e = .returned nv' ∧ MI w' nv' (n - (if (f id).isSome then 1 else 0)) (setF f id none) ∧ (nv' = .map none ∨ nv' = nv) ∧ Ch (fun j => nv = .map (some j)) w w' := by
  rcases hm.mk with rfl | ⟨mb, rfl⟩
  · refine (without58n id hid w).mono ?_
    rintro e w' ⟨rfl, rfl⟩
    have hz : ∀ k, okI k → f k = none ∧ n = 0 := by
      rcases hm with ⟨_, h1, h2⟩ | ⟨mb, D, h1, _⟩
      · exact fun k hk => ⟨h2 k hk, h1⟩
      · cases h1
    have hfl := (hz id hid)
    rw [hfl.1, hfl.2]
    refine ⟨_, rfl, (MI.nil w').congr (fun k hk => ?_), .inl rfl, Ch.refl _ _⟩
    unfold setF
    split
    · rfl
    · exact (hz k hk).1
  · obtain ⟨w2, h1, h2, h3⟩ := hm.del (t := 54) Tryz.underlying54 (k := id) hid 0
    obtain ⟨m, hmn⟩ : ∃ m, m = n - (if (f id).isSome then 1 else 0) := ⟨_, rfl⟩
    rw [← hmn] at h2 ⊢
    have hlen := h2.len (t := 54) Tryz.underlying54 3
    have H := hidi (And.intro h2 (h3.mono (S' := fun j => Value.map (some mb) = .map (some j)) (fun j _ e => by rw [e])))
    clear hm h2 h3 hmn
    by_cases h0 : m = 0
    · subst h0
      simp at hlen
      go_enter Tryz.func58, Tryz.ntmps58
      go_wp2_with fail
      go_ret
      have hz : ∀ k, okI k → setF f id none k = none := by
        rcases H.out.1 with ⟨_, h1, h2⟩ | ⟨mb, D, h1, h2, h3, h4⟩
        · exact h2
        · intro k hk
          obtain ⟨es, rfl, _⟩ := h2.entries law3
          have he : es = [] := List.length_eq_zero_iff.1 h3
          subst he
          have := (h4 k hk).1
          cases hs : setF f id none k with
          | none => rfl
          | some x =>
            rw [hs] at this
            simp [Maps.has] at this
      exact ⟨_, rfl, (MI.nil w2).congr hz, .inl rfl, H.out.2⟩
    · have hne : ((m : Int) == 0) = false := by simpa using h0
      go_enter Tryz.func58, Tryz.ntmps58
      go_wp2_with fail
      go_ret
      exact ⟨_, rfl, H.out.1, .inr rfl, H.out.2⟩
section
variable {W : World} {sb wb : Nat} {k : ByteArray} {la : Bool} {mo : Int} {sv nv : Value} {n m : Nat} {f : ByteArray → Option Value} {g : Int → Option Value}
/-- A call that takes something out, or lays something down, in the maps of a session. -/
structure Tk (W w' : World) (sb wb : Nat) (k : ByteArray) (la : Bool) (mo : Int) (sv nv sv' nv' : Value) (n m : Nat) (f : ByteArray → Option Value) (g : Int → Option Value) : Prop where
  ss : SsAt w' sb wb k la mo sv' nv'
  ms : MG w' sv' n f
  mn : MI w' nv' m g
  nw : ∀ j, sv' = .map (some j) ∨ nv' = .map (some j) → (sv = .map (some j) ∨ nv = .map (some j)) ∨ W.heap.size ≤ j
  ch : Ch (fun j => j = sb ∨ sv = .map (some j) ∨ nv = .map (some j)) W w'
  ap : ∀ j, sv' = .map (some j) → nv' ≠ .map (some j)
set_option maxRecDepth 100000 in
set_option maxHeartbeats 1000000 in
theorem unsub_any (h : SsAt W sb wb k la mo sv nv) (hm : MG W sv n f) (hn : MI W nv m g) (hap : ∀ j, sv = .map (some j) → nv ≠ .map (some j)) (hq : ∀ x v, f x = some v → ∃ q, v = .int .i64 q) (fl : ByteArray) (hfs : fl.size ≤ 1000000) :
    Calls Tryz.prog 30 #[.pointer (some ⟨sb, 0, none⟩), .string fl] W fun e w' => e = .returned (.bool (f fl).isSome) ∧ ∃ sv', Tk W w' sb wb k la mo sv nv sv' nv (n - (if (f fl).isSome then 1 else 0)) m (setG f fl none) g := by
  obtain ⟨vl, bl, hl, hbl⟩ : ∃ (vl : Int) (bl : Bool), (Instr.lookup 53 sv (.string fl) true).run Tryz.prog W = .ok (.tuple #[.int .i64 vl, .bool bl]) W ∧ bl = (f fl).isSome := by
    have hl := hm.look2 (t := 53) Tryz.underlying53 zero3 (k := fl) (by unfold okT maxLen; omega)
    cases hf : f fl with
    | none => rw [hf] at hl; exact ⟨0, false, hl, rfl⟩
    | some v =>
      obtain ⟨q, rfl⟩ := hq fl v hf
      rw [hf] at hl
      exact ⟨q, true, hl, rfl⟩
  obtain ⟨n', hn'⟩ : ∃ n', n' = n - (if (f fl).isSome then 1 else 0) := ⟨_, rfl⟩
  have WO := hidi (without57_any hm fl hfs)
  rw [← hn'] at WO ⊢
  rw [← hbl]
  clear hn'
  have a4 : W.cell? ⟨sb, 4, none⟩ = some sv := box_cells h 4 _ rfl
  have hne : ∀ j, sv = .map (some j) → sb ≠ j := fun j e z => by
    obtain ⟨es, cl, q⟩ := hm.block e
    unfold SsAt at h
    rw [z, q] at h
    cases h
  have HH := hidi (And.intro h (And.intro hn (And.intro hap hbl)))
  have hsl : sb < W.heap.size := (Array.getElem?_eq_some_iff.1 h).1
  clear h hm hn hap hq hbl
  go_enter Tryz.func30, Tryz.ntmps30
  go_wp2_with fail
  go_must (go_at_call 57)
  refine WO.out.mono ?_
  clear WO
  rintro e w2 ⟨sv', rfl, m2, hsv, hc⟩
  have h2 : SsAt w2 sb wb k la mo sv nv := (hc.block sb hsl (fun z => hne sb z rfl)).trans HH.out.1
  have f4 := box_frozen h2 4
  have c4 : w2.cell? ⟨sb, 4, none⟩ = some sv := box_cells h2 4 _ rfl
  have H2 := hidi (And.intro h2 (And.intro m2 (And.intro hsv hc)))
  obtain ⟨s', hs'⟩ : ∃ s', sv' = .map s' := by
    rcases m2.mk with z | ⟨z, e⟩
    · exact ⟨_, z⟩
    · exact ⟨_, e⟩
  subst hs'
  clear h2 hc hl a4 m2 hsv
  go_wp2_with fail
  go_ret
  refine ⟨rfl, .map s', ⟨set4 H2.out.1 _, ?_, ?_, fun j hj => ?_, ?_, fun j z1 z2 => ?_⟩⟩
  · refine H2.out.2.1.keep (fun b e => heap_set_ne _ (fun z => ?_))
    obtain ⟨es, cl, q⟩ := H2.out.2.1.block e
    have := H2.out.1
    unfold SsAt at this
    rw [← z, q] at this
    cases this
  · have m1 : MI w2 nv m g := HH.out.2.1.keep (fun b e => H2.out.2.2.2.block b (HH.out.2.1.lt e) (fun z => HH.out.2.2.1 b z e))
    refine m1.keep (fun b e => heap_set_ne _ (fun z => ?_))
    obtain ⟨es, cl, q⟩ := m1.block e
    have := H2.out.1
    unfold SsAt at this
    rw [← z, q] at this
    cases this
  · rcases hj with z | z
    · rcases H2.out.2.2.1 with y | y
      · rw [y] at z; cases z
      · rw [y] at z; exact .inl (.inl z)
    · exact .inl (.inr z)
  · exact (H2.out.2.2.2.mono (fun j _ q => .inr (.inl q))).trans (ch_set sb 4 _) (fun j _ q => .inl q)
  · rcases H2.out.2.2.1 with y | y
    · rw [y] at z1; cases z1
    · rw [y] at z1; exact HH.out.2.2.1 j z1 z2
end
end Go.Proofs.YtmihpmmkkklpfaaGreatDoor
