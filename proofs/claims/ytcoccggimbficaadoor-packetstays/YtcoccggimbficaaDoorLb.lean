import Derived.Test.YtcoccggimbficaaDoorCb
import Derived.Test.YtcoccggimbficaaDoorFc
import Derived.Test.YtcoccggimbficaaDoorWf
namespace Go.Proofs.YtcoccggimbficaaDoor
open Go Go.RowKit Go.Sort
set_option linter.unusedSimpArgs false
set_option linter.unusedVariables false

theorem sumN_scale (f g : Nat → Nat) (k n : Nat) (h : ∀ i, i < n → f i ≤ k * g i) : sumN f n ≤ k * sumN g n := by
  induction n with
  | zero => simp [sumN]
  | succ n ih =>
    have h1 := ih (fun i hi => h i (by omega))
    have h2 := h n (by omega)
    simp only [sumN, Nat.mul_add]
    omega
theorem sumN_many (f : Nat → Nat) (n : Nat) (h : ∀ i, i < n → 1 ≤ f i) : n ≤ sumN f n := by
  induction n with
  | zero => simp [sumN]
  | succ n ih =>
    have h1 := ih (fun i hi => h i (by omega))
    have h2 := h n (by omega)
    simp only [sumN]
    omega
theorem small_of {p : Pk} {c : Cn} (h : parts p c ≤ 300000) : Small p c := by
  have a1 := sumN_scale (fun i => 3 + (c.af i).size) (fun i => 1 + (c.af i).size) 3 p.asks.n (fun i _ => by show 3 + (c.af i).size ≤ 3 * (1 + (c.af i).size); omega)
  have a2 := sumN_scale (fun i => 2 + (c.fs i).size) (fun i => 1 + (c.fs i).size) 2 p.filters.n (fun i _ => by show 2 + (c.fs i).size ≤ 2 * (1 + (c.fs i).size); omega)
  have a3 := sumN_many (fun i => 1 + (c.af i).size) p.asks.n (fun i _ => by show 1 ≤ 1 + (c.af i).size; omega)
  have a4 := sumN_many (fun i => 1 + (c.fs i).size) p.filters.n (fun i _ => by show 1 ≤ 1 + (c.fs i).size; omega)
  unfold parts at h
  constructor <;> omega

set_option maxHeartbeats 1000000 in
set_option maxRecDepth 100000 in
theorem length_any (p : Pk) (c : Cn) (w : World) (hg : Gd w) (hin : In w p c) (hs : Small p c) : Calls Tryd.prog 12 #[p.v] w fun e w' => e = .returned (.int .i64 (if ck TT p c = 0 then sz p c else 0)) ∧ Below w.heap.size w w' := by
  have HG : Hid (Gd w) := hg
  have HI : Hid (In w p c) := hin
  have HS : Hid (Small p c) := hs
  clear hg hin hs
  have HC : Hid (∀ w', Below w.heap.size w w' → Calls Tryd.prog 17 #[p.v] w' fun e w'' => e = .returned (.int .i64 (ck TT p c)) ∧ Below w'.heap.size w' w'') := fun w' hb => check_any p c w' (HG.out.below hb) (HI.out.below hb) HS.out
  have HZ : Hid (ck TT p c = 0 → ∀ w', Below w.heap.size w w' → Calls Tryd.prog 21 #[p.v] w' fun e w'' => e = .returned (.int .i64 (sz p c)) ∧ Below w'.heap.size w' w'') := fun h w' hb => size_any p c w' HS.out (HI.out.below hb) ((ck_right TT p c).1 h).k1 ((ck_right TT p c).1 h).k2 (HG.out.below hb).kinds
  obtain ⟨cs, hcs⟩ : ∃ cs, cs = pkCells p := ⟨_, rfl⟩
  rw [show p.v = .agg cs by rw [hcs]; rfl] at HC HZ ⊢
  have hsz : Hid (cs.size = 25) := by show _ = _; rw [hcs]; rfl
  clear hcs
  obtain ⟨W, hW⟩ : ∃ W, W = w.alloc (.cells cs 31) := ⟨_, rfl⟩
  have b0 : Hid (Below w.heap.size w W) := box_below hW
  have g0 : Hid (W.heap[w.heap.size]? = some (.cells cs 31)) := by show _ = _; rw [hW]; exact heap_alloc_new w _
  obtain ⟨k0, hk0⟩ : ∃ k0, k0 = ck TT p c := ⟨_, rfl⟩
  rw [← hk0] at HC HZ ⊢
  obtain ⟨R, hR⟩ : ∃ R : Int, R = (if k0 = 0 then (sz p c : Int) else 0) := ⟨_, rfl⟩
  rw [← hR]
  clear hk0
  go_enter Tryd.func12, Tryd.ntmps12
  go_upto_region 1 with fail
  rw [← hW]
  clear hW
  go_wp2_with (first | (refine wpList_load_wanted rfl _ rfl w.heap.size rfl _ (0, 0) g0.out hsz.out ?_) | fail)
  go_must (go_at_call 17)
  refine (HC.out _ b0.out).mono ?_
  rintro e w1 ⟨rfl, hb⟩
  have b1 : Hid (Below w.heap.size w w1) := b0.out.trans (hb.mono b0.out.size)
  have g1 : Hid (w1.heap[w.heap.size]? = some (.cells cs 31)) := (hb.block _ (block_lt g0.out)).trans g0.out
  clear hb
  by_cases h : k0 = 0
  · have HZ2 := HZ.out h w1 b1.out
    have HR : Hid (R = sz p c) := by show _ = _; rw [hR, if_pos h]
    clear hR
    subst h
    go_wp2_with (first | (refine wpList_load_wanted rfl _ rfl w.heap.size rfl _ (0, 0) g1.out hsz.out ?_) | fail)
    go_must (go_at_call 21)
    refine HZ2.mono ?_
    rintro e w2 ⟨rfl, hb⟩
    have b2 : Hid (Below w.heap.size w w2) := b1.out.trans (hb.mono b1.out.size)
    clear hb
    go_wp2
    go_ret
    exact ⟨by rw [HR.out]; rfl, b2.out⟩
  · have q : ((k0 : Int) != 0) = true := by simpa using h
    have HR : Hid (R = 0) := by show _ = _; rw [hR, if_neg h]
    clear hR h
    go_wp2
    go_ret
    exact ⟨by rw [HR.out]; rfl, b1.out⟩

theorem tmod_range (k : Int) (n : Nat) (h : 0 < n) : -(n : Int) < k.tmod n ∧ k.tmod n < n := by
  rw [tmod_eq_if]
  have h1 := Int.emod_nonneg k (b := (n : Int)) (by omega)
  have h2 := Int.emod_lt_of_pos k (b := (n : Int)) (by omega)
  have h3 := Int.emod_nonneg (-k) (b := (n : Int)) (by omega)
  have h4 := Int.emod_lt_of_pos (-k) (b := (n : Int)) (by omega)
  split <;> omega
theorem fold_set : ∀ (l : List Value) (pre suf : List Value), suf.length = l.length → (l.zipIdx pre.length).foldl (fun (cs : Array Value) (x : Value × Nat) => cs.setIfInBounds x.snd x.fst) (pre ++ suf).toArray = (pre ++ l).toArray
  | [], pre, suf, h => by
    obtain rfl : suf = [] := List.length_eq_zero_iff.1 h
    rfl
  | v :: l, pre, [], h => by cases h
  | v :: l, pre, s :: suf, h => by
    simp only [List.zipIdx_cons, List.foldl_cons]
    have e : ((pre ++ s :: suf).toArray).setIfInBounds pre.length v = ((pre ++ [v]) ++ suf).toArray := by simp
    rw [e]
    have := fold_set l (pre ++ [v]) suf (by simpa using h)
    simp only [List.length_append, List.length_cons, List.length_nil, Nat.zero_add] at this
    rw [this]
    simp
theorem fold_whole (cs z : Array Value) (h : z.size = cs.size) : Array.foldl (fun (cs : Array Value) (x : Value × Nat) => cs.setIfInBounds x.snd x.fst) z cs.zipIdx 0 cs.size = cs := by
  have e := fold_set cs.toList [] z.toList (by simpa using h)
  rw [show cs.size = cs.zipIdx.size by simp, ← Array.foldl_toList]
  simpa using e
set_option maxHeartbeats 1000000 in
set_option maxRecDepth 100000 in
theorem right_any (p : Pk) (c : Cn) (w : World) (hg : Gd w) (hin : In w p c) (hf : Fit p c) : Calls Tryd.prog 11 #[p.v] w fun e w' => ∃ b, e = .returned (.bool b) ∧ Below w.heap.size w w' ∧ (b = true → Small p c ∧ Right TT p c) := by
  have HG : Hid (Gd w) := hg
  have HI : Hid (In w p c) := hin
  have HF : Hid (Fit p c) := hf
  clear hg hin hf
  have HC : Hid (Small p c → ∀ w', Below w.heap.size w w' → Calls Tryd.prog 17 #[p.v] w' fun e w'' => e = .returned (.int .i64 (ck TT p c)) ∧ Below w'.heap.size w' w'') := fun hs w' hb => check_any p c w' (HG.out.below hb) (HI.out.below hb) hs
  have HQ : Hid (∀ w' h0, Below w.heap.size w w' → w'.heap[h0]? = some (.cells (pkCells p) 31) → Calls Tryd.prog 20 #[.slice (some ⟨h0, 0, none⟩) 1 1] w' fun e w'' => ∃ b, e = .returned (.bool b) ∧ Below w'.heap.size w' w'' ∧ (b = true → parts p c ≤ 300000)) := fun w' h0 hb hx => few_any p c w' h0 (HI.out.below hb) HF.out hx
  obtain ⟨cs, hcs⟩ : ∃ cs, cs = pkCells p := ⟨_, rfl⟩
  rw [show p.v = .agg cs by rw [hcs]; rfl] at HC ⊢
  rw [← hcs] at HQ
  have hsz : Hid (cs.size = 25) := by show _ = _; rw [hcs]; rfl
  have HFold : Hid (∀ z : Array Value, z.size = 25 → Array.foldl (fun (cs : Array Value) (x : Value × Nat) => cs.setIfInBounds x.snd x.fst) z cs.zipIdx 0 cs.size = cs) := fun z h => fold_whole cs z (h.trans hsz.out.symm)
  clear hcs
  obtain ⟨W, hW⟩ : ∃ W, W = w.alloc (.cells cs 31) := ⟨_, rfl⟩
  have b0 : Hid (Below w.heap.size w W) := box_below hW
  have g0 : Hid (W.heap[w.heap.size]? = some (.cells cs 31)) := by show _ = _; rw [hW]; exact heap_alloc_new w _
  go_enter Tryd.func11, Tryd.ntmps11
  go_upto_region 1 with fail
  rw [← hW]
  clear hW
  go_wp2_with (first | (refine wpList_load_wanted rfl _ rfl w.heap.size rfl _ (0, 0) g0.out hsz.out ?_) | fail)
  · have := hsz.out
    simp [this] at h
  go_must (go_at_call 20)
  rw [HFold.out _ rfl]
  obtain ⟨W1, hW1⟩ : ∃ W1, W1 = W.alloc (.cells cs 31) := ⟨_, rfl⟩
  rw [← hW1]
  have c1 : Hid (Below W.heap.size W W1) := box_below hW1
  have b1 : Hid (Below w.heap.size w W1) := b0.out.trans (c1.out.mono b0.out.size)
  have g1 : Hid (W1.heap[w.heap.size]? = some (.cells cs 31)) := (c1.out.block _ (block_lt g0.out)).trans g0.out
  have g2 : W1.heap[W.heap.size]? = some (.cells cs 31) := by rw [hW1]; exact heap_alloc_new W _
  clear hW1
  refine (HQ.out W1 _ b1.out g2).mono ?_
  clear g2
  rintro e w1 ⟨b, rfl, hb, hp⟩
  have b2 : Hid (Below w.heap.size w w1) := b1.out.trans (hb.mono b1.out.size)
  have g2 : Hid (w1.heap[w.heap.size]? = some (.cells cs 31)) := (hb.block _ (block_lt g1.out)).trans g1.out
  clear hb
  cases b
  · clear hp
    go_wp2
    go_ret
    exact ⟨false, rfl, b2.out, fun h => by cases h⟩
  have HS : Hid (Small p c) := small_of (hp rfl)
  clear hp
  go_wp2_with (first | (refine wpList_load_wanted rfl _ rfl w.heap.size rfl _ (0, 0) g2.out hsz.out ?_) | fail)
  go_must (go_at_call 17)
  refine (HC.out HS.out _ b2.out).mono ?_
  rintro e w2 ⟨rfl, hb⟩
  have b3 : Hid (Below w.heap.size w w2) := b2.out.trans (hb.mono b2.out.size)
  clear hb
  go_wp2
  go_ret
  refine ⟨_, rfl, b3.out, fun h => ⟨HS.out, (ck_right TT p c).1 ?_⟩⟩
  have h2 : ((ck TT p c : Nat) : Int) = 0 := by simpa using h
  omega
end Go.Proofs.YtcoccggimbficaaDoor
namespace Go.Proofs.YtcoccggimbficaaDoor
open Go Go.RowKit Go.Sort
set_option linter.unusedSimpArgs false
set_option linter.unusedVariables false

/-- The first byte's flags. -/
def fg (p : Pk) : Int := bits .or .i64 (bits .or .i64 (bits .or .i64 (form p.kind.toNat).2.1 (mkI p.dup 8)) (2 * p.mQ)) (mkI p.mR 1)
theorem Right.q2 {T : Tx} {p : Pk} {c : Cn} (h : Right T p c) : p.mQ = 0 ∨ p.mQ = 1 ∨ p.mQ = 2 := by
  have := h.ql
  simp [qls, isQ] at this
  omega
set_option maxHeartbeats 1000000 in
set_option maxRecDepth 100000 in
theorem flags_any (p : Pk) (c : Cn) (w : World) (hg : Gd w) (hin : In w p c) (hs : Small p c) (hr : Right TT p c) : Calls Tryd.prog 13 #[p.v] w fun e w' => e = .returned (.int .i64 (fg p)) ∧ Below w.heap.size w w' := by
  have HG : Hid (Gd w) := hg
  have HK1 : Hid (1 ≤ p.kind) := hr.k1
  have HK2 : Hid (p.kind ≤ 14) := hr.k2
  have HQ := hr.q2
  have HC : Hid (∀ w', Below w.heap.size w w' → Calls Tryd.prog 17 #[p.v] w' fun e w'' => e = .returned (.int .i64 (0 : Nat)) ∧ Below w'.heap.size w' w'') := fun w' hb => by
    have := check_any p c w' (hg.below hb) (hin.below hb) hs
    rw [(ck_right TT p c).2 hr] at this
    exact this
  clear hg hin hs hr
  obtain ⟨cs, hcs⟩ : ∃ cs, cs = pkCells p := ⟨_, rfl⟩
  rw [show p.v = .agg cs by rw [hcs]; rfl] at HC ⊢
  obtain ⟨kind, level, clean, keep, client, hasWill, wT, wP, wQ, wR, hasUser, user, hasPass, pass, present, code, dup, mT, mP, mQ, mR, id, asks, codes, filters⟩ := p
  simp only at HK1 HK2 HQ
  obtain ⟨i, rfl⟩ : ∃ i : Nat, kind = i := ⟨kind.toNat, by have := HK1.out; omega⟩
  have hi : i < 15 := by have := HK2.out; omega
  have hi' : (i : Int) < 15 := by omega
  have a0 : Hid (cs[0]? = some (.int .i64 (i : Int))) := by show _ = _; rw [hcs]; rfl
  have a16 : Hid (cs[16]? = some (.bool dup)) := by show _ = _; rw [hcs]; rfl
  have a19 : Hid (cs[19]? = some (.int .i64 mQ)) := by show _ = _; rw [hcs]; rfl
  have a20 : Hid (cs[20]? = some (.bool mR)) := by show _ = _; rw [hcs]; rfl
  have hsz : Hid (cs.size = 25) := by show _ = _; rw [hcs]; rfl
  clear hcs
  obtain ⟨R, hR⟩ : ∃ R : Int, R = fg ⟨i, level, clean, keep, client, hasWill, wT, wP, wQ, wR, hasUser, user, hasPass, pass, present, code, dup, mT, mP, mQ, mR, id, asks, codes, filters⟩ := ⟨_, rfl⟩
  rw [← hR]
  have HR : Hid (R = bits .or .i64 (bits .or .i64 (bits .or .i64 (form i).2.1 (mkI dup 8)) (2 * mQ)) (mkI mR 1)) := hR
  clear hR
  obtain ⟨W, hW⟩ : ∃ W, W = w.alloc (.cells cs 31) := ⟨_, rfl⟩
  have b0 : Hid (Below w.heap.size w W) := box_below hW
  have g0 : Hid (W.heap[w.heap.size]? = some (.cells cs 31)) := by show _ = _; rw [hW]; exact heap_alloc_new w _
  have FA : Hid (∀ k v, cs[k]? = some v → ∀ w', Below W.heap.size W w' → w'.cell? ⟨w.heap.size, k, none⟩ = some v) := fun k v h w' hb => cell_later hb (by rw [hW]; exact box_cell w cs 31 k v h)
  go_enter Tryd.func13, Tryd.ntmps13
  go_upto_region 1 with fail
  rw [← hW]
  clear hW
  go_wp2_with (first | (refine wpList_load_wanted rfl _ rfl w.heap.size rfl _ (0, 0) g0.out hsz.out ?_) | fail)
  go_must (go_at_call 17)
  refine (HC.out _ b0.out).mono ?_
  rintro e w1 ⟨rfl, hb⟩
  have b1 : Hid (Below w.heap.size w w1) := b0.out.trans (hb.mono b0.out.size)
  have k0 : ∀ d os, (grow (redrawn w1 d) os).cell? ⟨w.heap.size, 0, none⟩ = some (.int .i64 (i : Int)) := fun d os => cell_later (below_regrown w1 d os) (FA.out 0 _ a0.out w1 hb)
  have k16 : ∀ d os, (grow (redrawn w1 d) os).cell? ⟨w.heap.size, 16, none⟩ = some (.bool dup) := fun d os => cell_later (below_regrown w1 d os) (FA.out 16 _ a16.out w1 hb)
  have k19 : ∀ d os, (grow (redrawn w1 d) os).cell? ⟨w.heap.size, 19, none⟩ = some (.int .i64 mQ) := fun d os => cell_later (below_regrown w1 d os) (FA.out 19 _ a19.out w1 hb)
  have k20 : ∀ d os, (grow (redrawn w1 d) os).cell? ⟨w.heap.size, 20, none⟩ = some (.bool mR) := fun d os => cell_later (below_regrown w1 d os) (FA.out 20 _ a20.out w1 hb)
  have kf : ∀ d os, (grow (redrawn w1 d) os).cell? ⟨0, i * 3 + 1, none⟩ = some (.int .i64 (form i).2.1) := fun d os => cell_later (below_regrown w1 d os) ((HG.out.below b1.out).kinds i hi).2.1
  clear hb
  go_upto_region 3 with fail
  refine wp_region_quiet_below (by kernel_rfl) (by kernel_rfl) ?_
  rcases HQ with rfl | rfl | rfl
  all_goals
    repeat (quiet_step ((go_at_call 22; exact Calls.regrown_of (mark_int _ _ _))))
    refine wpQuiet_nil ?_
    rintro _ ⟨⟨d, os⟩, rfl⟩
    go_wp2
    go_ret
    exact ⟨by rw [HR.out]; rfl, b1.out.trans ((below_regrown w1 d os).mono b1.out.size)⟩
end Go.Proofs.YtcoccggimbficaaDoor
