import Derived.Test.YtdanjbbemmngnaaGreatDoorWm
import Derived.Test.YtdanjbbemmngnaaGreatDoorFc
namespace Go.Proofs.YtdanjbbemmngnaaGreatDoor
open Go Go.RowKit Go.Sort
set_option linter.unusedSimpArgs false
set_option linter.unusedVariables false

theorem sumN_scale (f g : Nat → Nat) (k n : Nat) (h : ∀ i, i < n → f i ≤ k * g i) : sumN f n ≤ k * sumN g n := by
  induction n with
  | zero => simp [sumN]
  | succ n ih =>
    have h1 := ih (fun i hi => h i (by omega))
    have h2 := h n (by omega)
    simp only [sumN, Nat.mul_add]
    omega
theorem sumN_many (f : Nat → Nat) (n : Nat) (h : ∀ i, i < n → 1 ≤ f i) : n ≤ sumN f n := by
  induction n with
  | zero => simp [sumN]
  | succ n ih =>
    have h1 := ih (fun i hi => h i (by omega))
    have h2 := h n (by omega)
    simp only [sumN]
    omega
theorem small_of {p : Pk} {c : Cn} (h : parts p c ≤ 300000) : Small p c := by
  have a1 := sumN_scale (fun i => 3 + (c.af i).size) (fun i => 1 + (c.af i).size) 3 p.asks.n (fun i _ => by show 3 + (c.af i).size ≤ 3 * (1 + (c.af i).size); omega)
  have a2 := sumN_scale (fun i => 2 + (c.fs i).size) (fun i => 1 + (c.fs i).size) 2 p.filters.n (fun i _ => by show 2 + (c.fs i).size ≤ 2 * (1 + (c.fs i).size); omega)
  have a3 := sumN_many (fun i => 1 + (c.af i).size) p.asks.n (fun i _ => by show 1 ≤ 1 + (c.af i).size; omega)
  have a4 := sumN_many (fun i => 1 + (c.fs i).size) p.filters.n (fun i _ => by show 1 ≤ 1 + (c.fs i).size; omega)
  unfold parts at h
  constructor <;> omega

set_option maxHeartbeats 1000000 in
set_option maxRecDepth 100000 in
theorem length_any (p : Pk) (c : Cn) (w : World) (hg : Gd w) (hin : In w p c) (hs : Small p c) : Calls Tryz.prog 28 #[p.v] w fun e w' => e = .returned (.int .i64 (if ck TT p c = 0 then sz p c else 0)) ∧ Below w.heap.size w w' := by
  have HG : Hid (Gd w) := hg
  have HI : Hid (In w p c) := hin
  have HS : Hid (Small p c) := hs
  clear hg hin hs
  have HC : Hid (∀ w', Below w.heap.size w w' → Calls Tryz.prog 24 #[p.v] w' fun e w'' => e = .returned (.int .i64 (ck TT p c)) ∧ Below w'.heap.size w' w'') := fun w' hb => check_any p c w' (HG.out.below hb) (HI.out.below hb) HS.out
  have HZ : Hid (ck TT p c = 0 → ∀ w', Below w.heap.size w w' → Calls Tryz.prog 93 #[p.v] w' fun e w'' => e = .returned (.int .i64 (sz p c)) ∧ Below w'.heap.size w' w'') := fun h w' hb => size_any p c w' HS.out (HI.out.below hb) ((ck_right TT p c).1 h).k1 ((ck_right TT p c).1 h).k2 (HG.out.below hb).kinds
  obtain ⟨cs, hcs⟩ : ∃ cs, cs = pkCells p := ⟨_, rfl⟩
  rw [show p.v = .agg cs by rw [hcs]; rfl] at HC HZ ⊢
  have hsz : Hid (cs.size = 25) := by show _ = _; rw [hcs]; rfl
  clear hcs
  obtain ⟨W, hW⟩ : ∃ W, W = w.alloc (.cells cs 29) := ⟨_, rfl⟩
  have b0 : Hid (Below w.heap.size w W) := box_below hW
  have g0 : Hid (W.heap[w.heap.size]? = some (.cells cs 29)) := by show _ = _; rw [hW]; exact heap_alloc_new w _
  obtain ⟨k0, hk0⟩ : ∃ k0, k0 = ck TT p c := ⟨_, rfl⟩
  rw [← hk0] at HC HZ ⊢
  obtain ⟨R, hR⟩ : ∃ R : Int, R = (if k0 = 0 then (sz p c : Int) else 0) := ⟨_, rfl⟩
  rw [← hR]
  clear hk0
  go_enter Tryz.func28, Tryz.ntmps28
  go_upto_region 1 with fail
  rw [← hW]
  clear hW
  go_wp2_with (first | (refine wpList_load_wanted rfl _ rfl w.heap.size rfl _ (0, 0) g0.out hsz.out ?_) | fail)
  go_must (go_at_call 24)
  refine (HC.out _ b0.out).mono ?_
  rintro e w1 ⟨rfl, hb⟩
  have b1 : Hid (Below w.heap.size w w1) := b0.out.trans (hb.mono b0.out.size)
  have g1 : Hid (w1.heap[w.heap.size]? = some (.cells cs 29)) := (hb.block _ (block_lt g0.out)).trans g0.out
  clear hb
  by_cases h : k0 = 0
  · have HZ2 := HZ.out h w1 b1.out
    have HR : Hid (R = sz p c) := by show _ = _; rw [hR, if_pos h]
    clear hR
    subst h
    go_wp2_with (first | (refine wpList_load_wanted rfl _ rfl w.heap.size rfl _ (0, 0) g1.out hsz.out ?_) | fail)
    go_must (go_at_call 93)
    refine HZ2.mono ?_
    rintro e w2 ⟨rfl, hb⟩
    have b2 : Hid (Below w.heap.size w w2) := b1.out.trans (hb.mono b1.out.size)
    clear hb
    go_wp2
    go_ret
    exact ⟨by rw [HR.out]; rfl, b2.out⟩
  · have q : ((k0 : Int) != 0) = true := by simpa using h
    have HR : Hid (R = 0) := by show _ = _; rw [hR, if_neg h]
    clear hR h
    go_wp2
    go_ret
    exact ⟨by rw [HR.out]; rfl, b1.out⟩

theorem tmod_range (k : Int) (n : Nat) (h : 0 < n) : -(n : Int) < k.tmod n ∧ k.tmod n < n := by
  rw [tmod_eq_if]
  have h1 := Int.emod_nonneg k (b := (n : Int)) (by omega)
  have h2 := Int.emod_lt_of_pos k (b := (n : Int)) (by omega)
  have h3 := Int.emod_nonneg (-k) (b := (n : Int)) (by omega)
  have h4 := Int.emod_lt_of_pos (-k) (b := (n : Int)) (by omega)
  split <;> omega
theorem fold_set : ∀ (l : List Value) (pre suf : List Value), suf.length = l.length → (l.zipIdx pre.length).foldl (fun (cs : Array Value) (x : Value × Nat) => cs.setIfInBounds x.snd x.fst) (pre ++ suf).toArray = (pre ++ l).toArray
  | [], pre, suf, h => by
    obtain rfl : suf = [] := List.length_eq_zero_iff.1 h
    rfl
  | v :: l, pre, [], h => by cases h
  | v :: l, pre, s :: suf, h => by
    simp only [List.zipIdx_cons, List.foldl_cons]
    have e : ((pre ++ s :: suf).toArray).setIfInBounds pre.length v = ((pre ++ [v]) ++ suf).toArray := by simp
    rw [e]
    have := fold_set l (pre ++ [v]) suf (by simpa using h)
    simp only [List.length_append, List.length_cons, List.length_nil, Nat.zero_add] at this
    rw [this]
    simp
theorem fold_whole (cs z : Array Value) (h : z.size = cs.size) : Array.foldl (fun (cs : Array Value) (x : Value × Nat) => cs.setIfInBounds x.snd x.fst) z cs.zipIdx 0 cs.size = cs := by
  have e := fold_set cs.toList [] z.toList (by simpa using h)
  rw [show cs.size = cs.zipIdx.size by simp, ← Array.foldl_toList]
  simpa using e
end Go.Proofs.YtdanjbbemmngnaaGreatDoor
