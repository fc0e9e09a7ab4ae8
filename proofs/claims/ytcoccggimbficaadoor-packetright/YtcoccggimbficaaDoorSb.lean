import Derived.Test.YtcoccggimbficaaDoorCb
import Derived.Test.YtcoccggimbficaaDoorFc
import Derived.Test.YtcoccggimbficaaDoorWf
import Derived.Test.YtcoccggimbficaaDoorKw
import Derived.Test.YtcoccggimbficaaDoorFb
import Derived.Test.YtcoccggimbficaaDoorShelf
import Derived.Test.YtcoccggimbficaaDoorTa
namespace Go.Proofs.YtcoccggimbficaaDoor
open Go Go.RowKit Go.Sort
set_option linter.unusedSimpArgs false
set_option linter.unusedVariables false

theorem sumN_scale (f g : Nat → Nat) (k n : Nat) (h : ∀ i, i < n → f i ≤ k * g i) : sumN f n ≤ k * sumN g n := by
  induction n with
  | zero => simp [sumN]
  | succ n ih =>
    have h1 := ih (fun i hi => h i (by omega))
    have h2 := h n (by omega)
    simp only [sumN, Nat.mul_add]
    omega
theorem sumN_many (f : Nat → Nat) (n : Nat) (h : ∀ i, i < n → 1 ≤ f i) : n ≤ sumN f n := by
  induction n with
  | zero => simp [sumN]
  | succ n ih =>
    have h1 := ih (fun i hi => h i (by omega))
    have h2 := h n (by omega)
    simp only [sumN]
    omega
theorem small_of {p : Pk} {c : Cn} (h : parts p c ≤ 300000) : Small p c := by
  have a1 := sumN_scale (fun i => 3 + (c.af i).size) (fun i => 1 + (c.af i).size) 3 p.asks.n (fun i _ => by show 3 + (c.af i).size ≤ 3 * (1 + (c.af i).size); omega)
  have a2 := sumN_scale (fun i => 2 + (c.fs i).size) (fun i => 1 + (c.fs i).size) 2 p.filters.n (fun i _ => by show 2 + (c.fs i).size ≤ 2 * (1 + (c.fs i).size); omega)
  have a3 := sumN_many (fun i => 1 + (c.af i).size) p.asks.n (fun i _ => by show 1 ≤ 1 + (c.af i).size; omega)
  have a4 := sumN_many (fun i => 1 + (c.fs i).size) p.filters.n (fun i _ => by show 1 ≤ 1 + (c.fs i).size; omega)
  unfold parts at h
  constructor <;> omega

set_option maxHeartbeats 1000000 in
set_option maxRecDepth 100000 in
theorem length_any (p : Pk) (c : Cn) (w : World) (hg : Gd w) (hin : In w p c) (hs : Small p c) : Calls Tryd.prog 12 #[p.v] w fun e w' => e = .returned (.int .i64 (if ck TT p c = 0 then sz p c else 0)) ∧ Below w.heap.size w w' := by
  have HG : Hid (Gd w) := hg
  have HI : Hid (In w p c) := hin
  have HS : Hid (Small p c) := hs
  clear hg hin hs
  have HC : Hid (∀ w', Below w.heap.size w w' → Calls Tryd.prog 17 #[p.v] w' fun e w'' => e = .returned (.int .i64 (ck TT p c)) ∧ Below w'.heap.size w' w'') := fun w' hb => check_any p c w' (HG.out.below hb) (HI.out.below hb) HS.out
  have HZ : Hid (ck TT p c = 0 → ∀ w', Below w.heap.size w w' → Calls Tryd.prog 21 #[p.v] w' fun e w'' => e = .returned (.int .i64 (sz p c)) ∧ Below w'.heap.size w' w'') := fun h w' hb => size_any p c w' HS.out (HI.out.below hb) ((ck_right TT p c).1 h).k1 ((ck_right TT p c).1 h).k2 (HG.out.below hb).kinds
  obtain ⟨cs, hcs⟩ : ∃ cs, cs = pkCells p := ⟨_, rfl⟩
  rw [show p.v = .agg cs by rw [hcs]; rfl] at HC HZ ⊢
  have hsz : Hid (cs.size = 25) := by show _ = _; rw [hcs]; rfl
  clear hcs
  obtain ⟨W, hW⟩ : ∃ W, W = w.alloc (.cells cs 31) := ⟨_, rfl⟩
  have b0 : Hid (Below w.heap.size w W) := box_below hW
  have g0 : Hid (W.heap[w.heap.size]? = some (.cells cs 31)) := by show _ = _; rw [hW]; exact heap_alloc_new w _
  obtain ⟨k0, hk0⟩ : ∃ k0, k0 = ck TT p c := ⟨_, rfl⟩
  rw [← hk0] at HC HZ ⊢
  obtain ⟨R, hR⟩ : ∃ R : Int, R = (if k0 = 0 then (sz p c : Int) else 0) := ⟨_, rfl⟩
  rw [← hR]
  clear hk0
  go_enter Tryd.func12, Tryd.ntmps12
  go_upto_region 1 with fail
  rw [← hW]
  clear hW
  go_wp2_with (first | (refine wpList_load_wanted rfl _ rfl w.heap.size rfl _ (0, 0) g0.out hsz.out ?_) | fail)
  go_must (go_at_call 17)
  refine (HC.out _ b0.out).mono ?_
  rintro e w1 ⟨rfl, hb⟩
  have b1 : Hid (Below w.heap.size w w1) := b0.out.trans (hb.mono b0.out.size)
  have g1 : Hid (w1.heap[w.heap.size]? = some (.cells cs 31)) := (hb.block _ (block_lt g0.out)).trans g0.out
  clear hb
  by_cases h : k0 = 0
  · have HZ2 := HZ.out h w1 b1.out
    have HR : Hid (R = sz p c) := by show _ = _; rw [hR, if_pos h]
    clear hR
    subst h
    go_wp2_with (first | (refine wpList_load_wanted rfl _ rfl w.heap.size rfl _ (0, 0) g1.out hsz.out ?_) | fail)
    go_must (go_at_call 21)
    refine HZ2.mono ?_
    rintro e w2 ⟨rfl, hb⟩
    have b2 : Hid (Below w.heap.size w w2) := b1.out.trans (hb.mono b1.out.size)
    clear hb
    go_wp2
    go_ret
    exact ⟨by rw [HR.out]; rfl, b2.out⟩
  · have q : ((k0 : Int) != 0) = true := by simpa using h
    have HR : Hid (R = 0) := by show _ = _; rw [hR, if_neg h]
    clear hR h
    go_wp2
    go_ret
    exact ⟨by rw [HR.out]; rfl, b1.out⟩

theorem fold_set : ∀ (l : List Value) (pre suf : List Value), suf.length = l.length → (l.zipIdx pre.length).foldl (fun (cs : Array Value) (x : Value × Nat) => cs.setIfInBounds x.snd x.fst) (pre ++ suf).toArray = (pre ++ l).toArray
  | [], pre, suf, h => by
    obtain rfl : suf = [] := List.length_eq_zero_iff.1 h
    rfl
  | v :: l, pre, [], h => by cases h
  | v :: l, pre, s :: suf, h => by
    simp only [List.zipIdx_cons, List.foldl_cons]
    have e : ((pre ++ s :: suf).toArray).setIfInBounds pre.length v = ((pre ++ [v]) ++ suf).toArray := by simp
    rw [e]
    have := fold_set l (pre ++ [v]) suf (by simpa using h)
    simp only [List.length_append, List.length_cons, List.length_nil, Nat.zero_add] at this
    rw [this]
    simp
theorem fold_whole (cs z : Array Value) (h : z.size = cs.size) : Array.foldl (fun (cs : Array Value) (x : Value × Nat) => cs.setIfInBounds x.snd x.fst) z cs.zipIdx 0 cs.size = cs := by
  have e := fold_set cs.toList [] z.toList (by simpa using h)
  rw [show cs.size = cs.zipIdx.size by simp, ← Array.foldl_toList]
  simpa using e
set_option maxHeartbeats 1000000 in
set_option maxRecDepth 100000 in
theorem right_any (p : Pk) (c : Cn) (w : World) (hg : Gd w) (hin : In w p c) (hf : Fit p c) : Calls Tryd.prog 11 #[p.v] w fun e w' => ∃ b, e = .returned (.bool b) ∧ Below w.heap.size w w' ∧ (b = true → Small p c ∧ Right TT p c) := by
  have HG : Hid (Gd w) := hg
  have HI : Hid (In w p c) := hin
  have HF : Hid (Fit p c) := hf
  clear hg hin hf
  have HC : Hid (Small p c → ∀ w', Below w.heap.size w w' → Calls Tryd.prog 17 #[p.v] w' fun e w'' => e = .returned (.int .i64 (ck TT p c)) ∧ Below w'.heap.size w' w'') := fun hs w' hb => check_any p c w' (HG.out.below hb) (HI.out.below hb) hs
  have HQ : Hid (∀ w' h0, Below w.heap.size w w' → w'.heap[h0]? = some (.cells (pkCells p) 31) → Calls Tryd.prog 20 #[.slice (some ⟨h0, 0, none⟩) 1 1] w' fun e w'' => ∃ b, e = .returned (.bool b) ∧ Below w'.heap.size w' w'' ∧ (b = true → parts p c ≤ 300000)) := fun w' h0 hb hx => few_any p c w' h0 (HI.out.below hb) HF.out hx
  obtain ⟨cs, hcs⟩ : ∃ cs, cs = pkCells p := ⟨_, rfl⟩
  rw [show p.v = .agg cs by rw [hcs]; rfl] at HC ⊢
  rw [← hcs] at HQ
  have hsz : Hid (cs.size = 25) := by show _ = _; rw [hcs]; rfl
  have HFold : Hid (∀ z : Array Value, z.size = 25 → Array.foldl (fun (cs : Array Value) (x : Value × Nat) => cs.setIfInBounds x.snd x.fst) z cs.zipIdx 0 cs.size = cs) := fun z h => fold_whole cs z (h.trans hsz.out.symm)
  clear hcs
  obtain ⟨W, hW⟩ : ∃ W, W = w.alloc (.cells cs 31) := ⟨_, rfl⟩
  have b0 : Hid (Below w.heap.size w W) := box_below hW
  have g0 : Hid (W.heap[w.heap.size]? = some (.cells cs 31)) := by show _ = _; rw [hW]; exact heap_alloc_new w _
  go_enter Tryd.func11, Tryd.ntmps11
  go_upto_region 1 with fail
  rw [← hW]
  clear hW
  go_wp2_with (first | (refine wpList_load_wanted rfl _ rfl w.heap.size rfl _ (0, 0) g0.out hsz.out ?_) | fail)
  · have := hsz.out
    simp [this] at h
  go_must (go_at_call 20)
  rw [HFold.out _ rfl]
  obtain ⟨W1, hW1⟩ : ∃ W1, W1 = W.alloc (.cells cs 31) := ⟨_, rfl⟩
  rw [← hW1]
  have c1 : Hid (Below W.heap.size W W1) := box_below hW1
  have b1 : Hid (Below w.heap.size w W1) := b0.out.trans (c1.out.mono b0.out.size)
  have g1 : Hid (W1.heap[w.heap.size]? = some (.cells cs 31)) := (c1.out.block _ (block_lt g0.out)).trans g0.out
  have g2 : W1.heap[W.heap.size]? = some (.cells cs 31) := by rw [hW1]; exact heap_alloc_new W _
  clear hW1
  refine (HQ.out W1 _ b1.out g2).mono ?_
  clear g2
  rintro e w1 ⟨b, rfl, hb, hp⟩
  have b2 : Hid (Below w.heap.size w w1) := b1.out.trans (hb.mono b1.out.size)
  have g2 : Hid (w1.heap[w.heap.size]? = some (.cells cs 31)) := (hb.block _ (block_lt g1.out)).trans g1.out
  clear hb
  cases b
  · clear hp
    go_wp2
    go_ret
    exact ⟨false, rfl, b2.out, fun h => by cases h⟩
  have HS : Hid (Small p c) := small_of (hp rfl)
  clear hp
  go_wp2_with (first | (refine wpList_load_wanted rfl _ rfl w.heap.size rfl _ (0, 0) g2.out hsz.out ?_) | fail)
  go_must (go_at_call 17)
  refine (HC.out HS.out _ b2.out).mono ?_
  rintro e w2 ⟨rfl, hb⟩
  have b3 : Hid (Below w.heap.size w w2) := b2.out.trans (hb.mono b2.out.size)
  clear hb
  go_wp2
  go_ret
  refine ⟨_, rfl, b3.out, fun h => ⟨HS.out, (ck_right TT p c).1 ?_⟩⟩
  have h2 : ((ck TT p c : Nat) : Int) = 0 := by simpa using h
  omega
end Go.Proofs.YtcoccggimbficaaDoor
namespace Go.Proofs.YtcoccggimbficaaDoor
open Go Go.RowKit Go.Sort
set_option linter.unusedSimpArgs false
set_option linter.unusedVariables false

/-- The first byte's flags. -/
def fg (p : Pk) : Int := bits .or .i64 (bits .or .i64 (bits .or .i64 (form p.kind.toNat).2.1 (mkI p.dup 8)) (2 * p.mQ)) (mkI p.mR 1)
theorem Right.q2 {T : Tx} {p : Pk} {c : Cn} (h : Right T p c) : p.mQ = 0 ∨ p.mQ = 1 ∨ p.mQ = 2 := by
  have := h.ql
  simp [qls, isQ] at this
  omega
set_option maxHeartbeats 1000000 in
set_option maxRecDepth 100000 in
theorem flags_any (p : Pk) (c : Cn) (w : World) (hg : Gd w) (hin : In w p c) (hs : Small p c) (hr : Right TT p c) : Calls Tryd.prog 13 #[p.v] w fun e w' => e = .returned (.int .i64 (fg p)) ∧ Below w.heap.size w w' := by
  have HG : Hid (Gd w) := hg
  have HK1 : Hid (1 ≤ p.kind) := hr.k1
  have HK2 : Hid (p.kind ≤ 14) := hr.k2
  have HQ := hr.q2
  have HC : Hid (∀ w', Below w.heap.size w w' → Calls Tryd.prog 17 #[p.v] w' fun e w'' => e = .returned (.int .i64 (0 : Nat)) ∧ Below w'.heap.size w' w'') := fun w' hb => by
    have := check_any p c w' (hg.below hb) (hin.below hb) hs
    rw [(ck_right TT p c).2 hr] at this
    exact this
  clear hg hin hs hr
  obtain ⟨cs, hcs⟩ : ∃ cs, cs = pkCells p := ⟨_, rfl⟩
  rw [show p.v = .agg cs by rw [hcs]; rfl] at HC ⊢
  obtain ⟨kind, level, clean, keep, client, hasWill, wT, wP, wQ, wR, hasUser, user, hasPass, pass, present, code, dup, mT, mP, mQ, mR, id, asks, codes, filters⟩ := p
  simp only at HK1 HK2 HQ
  obtain ⟨i, rfl⟩ : ∃ i : Nat, kind = i := ⟨kind.toNat, by have := HK1.out; omega⟩
  have hi : i < 15 := by have := HK2.out; omega
  have hi' : (i : Int) < 15 := by omega
  have a0 : Hid (cs[0]? = some (.int .i64 (i : Int))) := by show _ = _; rw [hcs]; rfl
  have a16 : Hid (cs[16]? = some (.bool dup)) := by show _ = _; rw [hcs]; rfl
  have a19 : Hid (cs[19]? = some (.int .i64 mQ)) := by show _ = _; rw [hcs]; rfl
  have a20 : Hid (cs[20]? = some (.bool mR)) := by show _ = _; rw [hcs]; rfl
  have hsz : Hid (cs.size = 25) := by show _ = _; rw [hcs]; rfl
  clear hcs
  obtain ⟨R, hR⟩ : ∃ R : Int, R = fg ⟨i, level, clean, keep, client, hasWill, wT, wP, wQ, wR, hasUser, user, hasPass, pass, present, code, dup, mT, mP, mQ, mR, id, asks, codes, filters⟩ := ⟨_, rfl⟩
  rw [← hR]
  have HR : Hid (R = bits .or .i64 (bits .or .i64 (bits .or .i64 (form i).2.1 (mkI dup 8)) (2 * mQ)) (mkI mR 1)) := hR
  clear hR
  obtain ⟨W, hW⟩ : ∃ W, W = w.alloc (.cells cs 31) := ⟨_, rfl⟩
  have b0 : Hid (Below w.heap.size w W) := box_below hW
  have g0 : Hid (W.heap[w.heap.size]? = some (.cells cs 31)) := by show _ = _; rw [hW]; exact heap_alloc_new w _
  have FA : Hid (∀ k v, cs[k]? = some v → ∀ w', Below W.heap.size W w' → w'.cell? ⟨w.heap.size, k, none⟩ = some v) := fun k v h w' hb => cell_later hb (by rw [hW]; exact box_cell w cs 31 k v h)
  go_enter Tryd.func13, Tryd.ntmps13
  go_upto_region 1 with fail
  rw [← hW]
  clear hW
  go_wp2_with (first | (refine wpList_load_wanted rfl _ rfl w.heap.size rfl _ (0, 0) g0.out hsz.out ?_) | fail)
  go_must (go_at_call 17)
  refine (HC.out _ b0.out).mono ?_
  rintro e w1 ⟨rfl, hb⟩
  have b1 : Hid (Below w.heap.size w w1) := b0.out.trans (hb.mono b0.out.size)
  have k0 : ∀ d os, (grow (redrawn w1 d) os).cell? ⟨w.heap.size, 0, none⟩ = some (.int .i64 (i : Int)) := fun d os => cell_later (below_regrown w1 d os) (FA.out 0 _ a0.out w1 hb)
  have k16 : ∀ d os, (grow (redrawn w1 d) os).cell? ⟨w.heap.size, 16, none⟩ = some (.bool dup) := fun d os => cell_later (below_regrown w1 d os) (FA.out 16 _ a16.out w1 hb)
  have k19 : ∀ d os, (grow (redrawn w1 d) os).cell? ⟨w.heap.size, 19, none⟩ = some (.int .i64 mQ) := fun d os => cell_later (below_regrown w1 d os) (FA.out 19 _ a19.out w1 hb)
  have k20 : ∀ d os, (grow (redrawn w1 d) os).cell? ⟨w.heap.size, 20, none⟩ = some (.bool mR) := fun d os => cell_later (below_regrown w1 d os) (FA.out 20 _ a20.out w1 hb)
  have kf : ∀ d os, (grow (redrawn w1 d) os).cell? ⟨0, i * 3 + 1, none⟩ = some (.int .i64 (form i).2.1) := fun d os => cell_later (below_regrown w1 d os) ((HG.out.below b1.out).kinds i hi).2.1
  clear hb
  go_upto_region 3 with fail
  refine wp_region_quiet_below (by kernel_rfl) (by kernel_rfl) ?_
  rcases HQ with rfl | rfl | rfl
  all_goals
    repeat (quiet_step ((go_at_call 22; exact Calls.regrown_of (mark_int _ _ _))))
    refine wpQuiet_nil ?_
    rintro _ ⟨⟨d, os⟩, rfl⟩
    go_wp2
    go_ret
    exact ⟨by rw [HR.out]; rfl, b1.out.trans ((below_regrown w1 d os).mono b1.out.size)⟩
end Go.Proofs.YtcoccggimbficaaDoor
namespace Go.Proofs.YtcoccggimbficaaDoor
open Go Go.RowKit
set_option linter.unusedSimpArgs false
set_option linter.unusedVariables false

def nm (k : Int) : ByteArray := if isK k then ⟨(form k.toNat).1.toArray⟩ else ⟨#[]⟩
theorem name_in (i : Nat) (h1 : 1 ≤ i) (h2 : i ≤ 14) (w : World) (hk : KindsAt w) : Calls Tryd.prog 8 #[.int .i64 i] w fun e w' => e = .returned (.string ⟨(form i).1.toArray⟩) ∧ w' = w := by
  have hc := (hk i (by omega)).1
  have HK : isK (i : Int) = true := by simp [isK]; omega
  have hi : (i : Int) < 15 := by omega
  go_enter Tryd.func8, Tryd.ntmps8
  go_wp2_with (go_at_call 18; refine (isKind_any _ _).mono ?_; rintro e w' ⟨rfl, rfl⟩; rw [HK])
  go_ret
  exact ⟨rfl, rfl⟩
theorem name_none (k : Int) (h : isK k = false) (w : World) : Calls Tryd.prog 8 #[.int .i64 k] w fun e w' => e = .returned (.string ⟨#[]⟩) ∧ w' = w := by
  go_enter Tryd.func8, Tryd.ntmps8
  go_wp2_with (go_at_call 18; refine (isKind_any _ _).mono ?_; rintro e w' ⟨rfl, rfl⟩; rw [h])
  go_ret
  exact ⟨rfl, rfl⟩
theorem name_any (k : Int) (w : World) (hk : KindsAt w) : Calls Tryd.prog 8 #[.int .i64 k] w fun e w' => e = .returned (.string (nm k)) ∧ w' = w := by
  cases h : isK k with
  | false => rw [show nm k = ⟨#[]⟩ by simp [nm, h]]; exact name_none k h w
  | true =>
    have h' := h
    simp only [isK, Bool.and_eq_true, decide_eq_true_eq] at h'
    obtain ⟨i, rfl⟩ : ∃ i : Nat, k = i := ⟨k.toNat, by omega⟩
    rw [show nm i = ⟨(form i).1.toArray⟩ by simp [nm, h]]
    exact name_in i (by omega) (by omega) w hk
end Go.Proofs.YtcoccggimbficaaDoor
namespace Go.Proofs.YtcoccggimbficaaDoor
open Go Go.RowKit
set_option linter.unusedSimpArgs false
set_option linter.unusedVariables false

def bEq (z : Nat → Int) (n : Nat) (z' : Nat → Int) (m : Nat) : Bool := (strZ z n).toList == (strZ z' m).toList
def iEq (z : Nat → Int) (n : Nat) (z' : Nat → Int) (m : Nat) : Bool := decide (n = m ∧ ∀ i, i < n → z i = z' i)
def tEq (z : Nat → ByteArray) (n : Nat) (z' : Nat → ByteArray) (m : Nat) : Bool := decide (n = m ∧ ∀ i, i < n → z i = z' i)
def aEq (f : Nat → ByteArray) (q : Nat → Int) (n : Nat) (f' : Nat → ByteArray) (q' : Nat → Int) (m : Nat) : Bool := decide (n = m ∧ ∀ i, i < n → f i = f' i ∧ q i = q' i)
/-- What two headings tell. -/
def hdEq (t t' : ByteArray) (q q' : Int) (r r' : Bool) : Bool := (t.toList == t'.toList) && (q == q') && (r == r')
/-- Two packets but for their lists. -/
def plEq (p q : Pk) : Bool :=
  (p.kind == q.kind) && (p.level == q.level) && (p.keep == q.keep) && (p.code == q.code) && (p.id == q.id) && (p.clean == q.clean) && (p.present == q.present) && (p.dup == q.dup) && (p.hasWill == q.hasWill) && (p.hasUser == q.hasUser) && (p.hasPass == q.hasPass) &&
  (p.client.toList == q.client.toList) && (p.user.toList == q.user.toList) && hdEq p.wT q.wT p.wQ q.wQ p.wR q.wR && hdEq p.mT q.mT p.mQ q.mQ p.mR q.mR
/-- What Same tells. -/
def sm (p : Pk) (c : Cn) (q : Pk) (d : Cn) : Bool :=
  plEq p q && bEq c.wz p.wP.n d.wz q.wP.n && bEq c.pz p.pass.n d.pz q.pass.n && bEq c.mz p.mP.n d.mz q.mP.n && aEq c.af c.aq p.asks.n d.af d.aq q.asks.n && iEq c.cs p.codes.n d.cs q.codes.n && tEq c.fs p.filters.n d.fs q.filters.n

theorem str_eq {a b : ByteArray} (h : (a.toList == b.toList) = true) : a = b := by
  have h := eq_of_beq h
  rw [Lib.toList_data, Lib.toList_data] at h
  obtain ⟨⟨x⟩⟩ := a
  obtain ⟨⟨y⟩⟩ := b
  simp only at h
  rw [h]
theorem str_refl (a : ByteArray) : (a.toList == a.toList) = true := by simp
theorem str_comm (a b : ByteArray) : (a.toList == b.toList) = (b.toList == a.toList) := Bool.eq_iff_iff.2 ⟨fun h => by rw [str_eq h]; simp, fun h => by rw [str_eq h]; simp⟩
theorem beq_comm' {α : Type} [BEq α] [LawfulBEq α] (a b : α) : (a == b) = (b == a) := Bool.eq_iff_iff.2 ⟨fun h => by rw [eq_of_beq h]; simp, fun h => by rw [eq_of_beq h]; simp⟩
theorem bEq_size {z z' : Nat → Int} {n m : Nat} (h : bEq z n z' m = true) : n = m := by
  have := congrArg ByteArray.size (str_eq h)
  rwa [strZ_size, strZ_size] at this
theorem bEq_comm (z z' : Nat → Int) (n m : Nat) : bEq z n z' m = bEq z' m z n := str_comm _ _
theorem bEq_refl (z : Nat → Int) (n : Nat) : bEq z n z n = true := str_refl _
theorem iEq_comm (z z' : Nat → Int) (n m : Nat) : iEq z n z' m = iEq z' m z n := by
  unfold iEq
  refine decide_eq_decide.2 ⟨fun ⟨h, k⟩ => ⟨h.symm, fun i hi => (k i (by omega)).symm⟩, fun ⟨h, k⟩ => ⟨h.symm, fun i hi => (k i (by omega)).symm⟩⟩
theorem tEq_comm (z z' : Nat → ByteArray) (n m : Nat) : tEq z n z' m = tEq z' m z n := by
  unfold tEq
  refine decide_eq_decide.2 ⟨fun ⟨h, k⟩ => ⟨h.symm, fun i hi => (k i (by omega)).symm⟩, fun ⟨h, k⟩ => ⟨h.symm, fun i hi => (k i (by omega)).symm⟩⟩
theorem aEq_comm (f f' : Nat → ByteArray) (q q' : Nat → Int) (n m : Nat) : aEq f q n f' q' m = aEq f' q' m f q n := by
  unfold aEq
  refine decide_eq_decide.2 ⟨fun ⟨h, k⟩ => ⟨h.symm, fun i hi => ⟨(k i (by omega)).1.symm, (k i (by omega)).2.symm⟩⟩, fun ⟨h, k⟩ => ⟨h.symm, fun i hi => ⟨(k i (by omega)).1.symm, (k i (by omega)).2.symm⟩⟩⟩
theorem hdEq_comm (t t' : ByteArray) (q q' : Int) (r r' : Bool) : hdEq t t' q q' r r' = hdEq t' t q' q r' r := by
  unfold hdEq
  rw [str_comm t t', beq_comm' q q', beq_comm' r r']
theorem plEq_comm (p q : Pk) : plEq p q = plEq q p := by
  unfold plEq
  rw [beq_comm' p.kind, beq_comm' p.level, beq_comm' p.keep, beq_comm' p.code, beq_comm' p.id, beq_comm' p.clean, beq_comm' p.present, beq_comm' p.dup, beq_comm' p.hasWill, beq_comm' p.hasUser, beq_comm' p.hasPass, str_comm p.client, str_comm p.user, hdEq_comm p.wT, hdEq_comm p.mT]
theorem sm_comm (p : Pk) (c : Cn) (q : Pk) (d : Cn) : sm p c q d = sm q d p c := by
  unfold sm
  rw [plEq_comm p q, bEq_comm c.wz, bEq_comm c.pz, bEq_comm c.mz, aEq_comm c.af, iEq_comm c.cs, tEq_comm c.fs]
/-- A packet and one with its lists elsewhere. -/
theorem sm_copy (p : Pk) (c : Cn) (s1 s2 s3 s4 s5 s6 : Sl) (h1 : s1.n = p.wP.n) (h2 : s2.n = p.pass.n) (h3 : s3.n = p.mP.n) (h4 : s4.n = p.asks.n) (h5 : s5.n = p.codes.n) (h6 : s6.n = p.filters.n) :
    sm p c { p with wP := s1, pass := s2, mP := s3, asks := s4, codes := s5, filters := s6 } c = true := by
  simp [sm, plEq, hdEq, h1, h2, h3, h4, h5, h6, bEq_refl, iEq, tEq, aEq]

theorem hdEq_out {t t' : ByteArray} {q q' : Int} {r r' : Bool} (h : hdEq t t' q q' r r' = true) : t = t' ∧ q = q' ∧ r = r' := by
  simp only [hdEq, Bool.and_eq_true] at h
  exact ⟨str_eq h.1.1, by simpa using h.1.2, by simpa using h.2⟩
theorem sm_fg {p q : Pk} {c d : Cn} (h : sm p c q d = true) : fg p = fg q := by
  simp only [sm, Bool.and_eq_true] at h
  have h := h.1.1.1.1.1.1
  simp only [plEq, Bool.and_eq_true, beq_iff_eq] at h
  obtain ⟨_, e2, e3⟩ := hdEq_out h.2
  have e0 : p.kind = q.kind := by simp_all
  have e1 : p.dup = q.dup := by simp_all
  unfold fg
  rw [e0, e1, e2, e3]
theorem sm_sz {p q : Pk} {c d : Cn} (h : sm p c q d = true) : sz p c = sz q d := by
  simp only [sm, Bool.and_eq_true] at h
  obtain ⟨⟨⟨⟨⟨⟨h, w1⟩, w2⟩, w3⟩, w4⟩, w5⟩, w6⟩ := h
  have w1 := bEq_size w1
  have w2 := bEq_size w2
  have w3 := bEq_size w3
  simp only [aEq, decide_eq_true_eq] at w4
  simp only [iEq, decide_eq_true_eq] at w5
  simp only [tEq, decide_eq_true_eq] at w6
  simp only [plEq, Bool.and_eq_true] at h
  obtain ⟨⟨⟨⟨⟨⟨⟨⟨⟨⟨⟨⟨⟨⟨e1, _⟩, _⟩, _⟩, _⟩, _⟩, _⟩, _⟩, e9⟩, e10⟩, e11⟩, e12⟩, e13⟩, e14⟩, e15⟩ := h
  have e1 : p.kind = q.kind := by simpa using e1
  have e9 : p.hasWill = q.hasWill := by simpa using e9
  have e10 : p.hasUser = q.hasUser := by simpa using e10
  have e11 : p.hasPass = q.hasPass := by simpa using e11
  have e12 := str_eq e12
  have e13 := str_eq e13
  obtain ⟨e14, _, _⟩ := hdEq_out e14
  obtain ⟨e15, e16, _⟩ := hdEq_out e15
  have s1 : sumN (fun i => 3 + (c.af i).size) p.asks.n = sumN (fun i => 3 + (d.af i).size) q.asks.n := by
    rw [← w4.1]; exact sumN_congr _ _ _ fun i hi => by rw [(w4.2 i hi).1]
  have s2 : sumN (fun i => 2 + (c.fs i).size) p.filters.n = sumN (fun i => 2 + (d.fs i).size) q.filters.n := by
    rw [← w6.1]; exact sumN_congr _ _ _ fun i hi => by rw [w6.2 i hi]
  have s3 : nid p = nid q := by unfold nid hasID; rw [e1, e16]
  unfold sz szc
  rw [s1, s2, s3, e1, e9, e10, e11, e12, e13, e14, e15, w1, w2, w3, w5.1]

/-! ### first bytes of right packets -/
theorem may_fg {T : Tx} {p : Pk} {c : Cn} (h : Right T p c) : may p.kind (fg p) = true := by
  have k1 := h.k1
  have k2 := h.k2
  by_cases k3 : p.kind = 3
  · have hq := h.q2
    have hm := h.m2
    unfold fg
    rw [k3]
    rcases hq with e | e | e <;> cases hd : p.dup <;> cases hr : p.mR <;> first | exact absurd e (hm hd) | (rw [e]; show may _ _ = true; kernel_rfl)
  · have e1 := h.own.dup k3
    obtain ⟨_, e2, e3, _⟩ := h.own.msg k3
    unfold fg
    rw [e1, e2, e3]
    rcases kinds14' k1 k2 with e | e | e | e | e | e | e | e | e | e | e | e | e | e <;> first | exact absurd e k3 | (rw [e]; show may _ _ = true; kernel_rfl)
end Go.Proofs.YtcoccggimbficaaDoor
namespace Go.Proofs.YtcoccggimbficaaDoor
open Go Go.RowKit Go.Sort
set_option linter.unusedSimpArgs false
set_option linter.unusedVariables false

theorem getD_range {α : Type} (z : Nat → α) (d : α) (n j : Nat) (h : j < n) : ((List.range n).map z).getD j d = z j := by simp [List.getD, h]
theorem map_range_eq {α : Type} (z z' : Nat → α) (n : Nat) : (List.range n).map z = (List.range n).map z' ↔ ∀ i, i < n → z i = z' i := by
  constructor
  · intro h i hi
    have := congrArg (fun l => l[i]?) h
    simpa [hi] using this
  · intro h
    exact List.map_congr_left fun i hi => h i (List.mem_range.1 hi)

theorem ints_same (s s' : Sl) (z z' : Nat → Int) (w : World) (h : Is w s z) (h' : Is w s' z') (hm : s.n ≤ 9223372036854775807) (hm' : s'.n ≤ 9223372036854775807) :
    Calls Tryd.prog 26 #[s.v, s'.v] w fun e w' => e = .returned (.bool (iEq z s.n z' s'.n)) ∧ Below w.heap.size w w' := by
  obtain ⟨a, n, c⟩ := s
  obtain ⟨a', n', c'⟩ := s'
  simp only at hm hm'
  simp only [Sl.v]
  by_cases hn : n = n'
  · subst hn
    obtain ⟨hle, h0 | ⟨b, off, he, hc⟩⟩ := h
    · simp only at h0
      subst h0
      refine (Tryd.slices_Equal_int_empty a a' c 0 c' w (by decide)).mono fun e w' ⟨he, hw⟩ => ⟨?_, by rw [hw]; exact Below.refl _ _⟩
      rw [he]; simp [iEq]
    · obtain ⟨hle', h0' | ⟨b', off', he', hc'⟩⟩ := h'
      · simp only at h0'
        subst h0'
        refine (Tryd.slices_Equal_int_empty a a' c 0 c' w (by decide)).mono fun e w' ⟨he, hw⟩ => ⟨?_, by rw [hw]; exact Below.refl _ _⟩
        rw [he]; simp [iEq]
      · simp only at he he' hc hc'
        subst he he'
        refine (Tryd.slices_Equal_int b off n c b' off' n c' ((List.range n).map z) ((List.range n).map z') w (by simp) (by simp) hm hm (fun j hj => ?_) (fun j hj => ?_)).mono fun e w' ⟨he, q, hw⟩ => ⟨?_, ?_⟩
        · simp at hj; rw [getD_range z 0 n j hj]; exact hc j hj
        · simp at hj; rw [getD_range z' 0 n j hj]; exact hc' j hj
        · rw [he]
          congr 2
          simp only [iEq, List.take_of_length_le, List.length_map, List.length_range, Nat.le_refl, true_and]
          exact Bool.eq_iff_iff.2 (by simp only [beq_iff_eq, decide_eq_true_eq, map_range_eq])
        · rw [hw]; exact below_drewN (Below.refl _ _) q
  · refine (Tryd.slices_Equal_int_lens a a' n c n' c' w hn).mono fun e w' ⟨he, hw⟩ => ⟨?_, by rw [hw]; exact Below.refl _ _⟩
    rw [he]; simp [iEq, hn]

theorem texts_same (s s' : Sl) (z z' : Nat → ByteArray) (w : World) (h : Ss w s z) (h' : Ss w s' z') (hm : s.n ≤ 9223372036854775807) (hm' : s'.n ≤ 9223372036854775807) :
    Calls Tryd.prog 27 #[s.v, s'.v] w fun e w' => e = .returned (.bool (tEq z s.n z' s'.n)) ∧ Below w.heap.size w w' := by
  obtain ⟨a, n, c⟩ := s
  obtain ⟨a', n', c'⟩ := s'
  simp only at hm hm'
  simp only [Sl.v]
  by_cases hn : n = n'
  · subst hn
    obtain ⟨hle, h0 | ⟨b, off, he, hc⟩⟩ := h
    · simp only at h0
      subst h0
      refine (Tryd.slices_Equal_string_empty a a' c 0 c' w (by decide)).mono fun e w' ⟨he, hw⟩ => ⟨?_, by rw [hw]; exact Below.refl _ _⟩
      rw [he]; simp [tEq]
    · obtain ⟨hle', h0' | ⟨b', off', he', hc'⟩⟩ := h'
      · simp only at h0'
        subst h0'
        refine (Tryd.slices_Equal_string_empty a a' c 0 c' w (by decide)).mono fun e w' ⟨he, hw⟩ => ⟨?_, by rw [hw]; exact Below.refl _ _⟩
        rw [he]; simp [tEq]
      · simp only at he he' hc hc'
        subst he he'
        refine (Tryd.slices_Equal_string b off n c b' off' n c' ((List.range n).map z) ((List.range n).map z') w (by simp) (by simp) hm hm (fun j hj => ?_) (fun j hj => ?_)).mono fun e w' ⟨he, q, hw⟩ => ⟨?_, ?_⟩
        · simp at hj; rw [getD_range z _ n j hj]; exact hc j hj
        · simp at hj; rw [getD_range z' _ n j hj]; exact hc' j hj
        · rw [he]
          congr 2
          simp only [tEq, List.take_of_length_le, List.length_map, List.length_range, Nat.le_refl, true_and]
          exact decide_eq_decide.2 (map_range_eq z z' n)
        · rw [hw]; exact below_drewN (Below.refl _ _) q
  · refine (Tryd.slices_Equal_string_lens a a' n c n' c' w hn).mono fun e w' ⟨he, hw⟩ => ⟨?_, by rw [hw]; exact Below.refl _ _⟩
    rw [he]; simp [tEq, hn]

theorem neq_ask (t t' : ByteArray) (q q' : Int) (w : World) : (binOp .neq 56 (.agg #[.string t, .int .i64 q]) (.agg #[.string t', .int .i64 q'])).run Tryd.prog w = .ok (.bool (!((t.toList == t'.toList) && (q == q')))) w := by
  have hu : Tryd.prog.underlying 56 = some (.struct (Tryd.prog.fieldsOf 56)) := by kernel_rfl
  have hp : Tryd.prog.stoodInHeld 56 = false := by kernel_rfl
  rw [run_neq_struct, run_equalIn_agg w 9999 56 _ _ hu hp]
  clear hu hp
  simp only [Program.fieldsOf, Tryd.underlying56]
  cases h1 : (t.toList == t'.toList)
  · go_simp
  · cases h2 : (q == q')
    · go_simp
    · go_simp

set_option maxHeartbeats 1000000 in
theorem asks_same (s s' : Sl) (f f' : Nat → ByteArray) (q q' : Nat → Int) (w : World) (h : As w s f q) (h' : As w s' f' q') (hm : s.n ≤ 9223372036854775807) (hm' : s'.n ≤ 9223372036854775807) :
    Calls Tryd.prog 25 #[s.v, s'.v] w fun e w' => e = .returned (.bool (aEq f q s.n f' q' s'.n)) ∧ Below w.heap.size w w' := by
  obtain ⟨a, n, c⟩ := s
  obtain ⟨a', n', c'⟩ := s'
  simp only at hm hm'
  simp only [Sl.v]
  by_cases hn : n = n'
  · subst hn
    have HA : Hid (As w ⟨a, n, c⟩ f q) := h
    have HB : Hid (As w ⟨a', n, c'⟩ f' q') := h'
    have EG : Tryd.prog.eqGuardType Tryd.prog.depth 56 = false := by kernel_rfl
    have B0 : Hid (Below w.heap.size w w) := Below.refl _ _
    clear h h'
    go_enter Tryd.func25, Tryd.ntmps25
    go_wp2_with fail
    go_loopg [13] n (fun gg s4 wx => ∃ (k : Nat), s4 = .int .i64 k ∧ k + gg = n ∧ Hid (Below w.heap.size w wx) ∧ Hid (∀ i, i < k → f i = f' i ∧ q i = q' i))
    case atStart => exact ⟨0, rfl, by omega, B0, fun i hi => absurd hi (Nat.not_lt_zero _)⟩
    case round =>
      obtain ⟨k, rfl, hkg, B1, S1⟩ := hrel
      by_cases hk : k < n
      · have hk' : (k : Int) < n := by omega
        obtain ⟨b, off, he, hc⟩ : ∃ b off, a = some ⟨b, off, none⟩ ∧ ∀ i, i < n → (w.cell? ⟨b, off + i * 2, none⟩ = some (.string (f i)) ∧ w.cell? ⟨b, off + i * 2 + 1, none⟩ = some (.int .i64 (q i))) := by
          rcases HA.out.2 with h | h
          · simp only at h; omega
          · exact h
        obtain ⟨b', off', he', hc'⟩ : ∃ b off, a' = some ⟨b, off, none⟩ ∧ ∀ i, i < n → (w.cell? ⟨b, off + i * 2, none⟩ = some (.string (f' i)) ∧ w.cell? ⟨b, off + i * 2 + 1, none⟩ = some (.int .i64 (q' i))) := by
          rcases HB.out.2 with h | h
          · simp only at h; omega
          · exact h
        subst he he'
        have hac : n ≤ c := HA.out.1
        have hac' : n ≤ c' := HB.out.1
        have c0 := cell_later B1.out (hc k hk).1
        have c1 := cell_later B1.out (hc k hk).2
        have d0 := cell_later B1.out (hc' k hk).1
        have d1 := cell_later B1.out (hc' k hk).2
        have EQ := neq_ask (f k) (f' k) (q k) (q' k)
        obtain ⟨gg, hg⟩ : ∃ gg, gk = gg + 1 := ⟨gk - 1, by omega⟩
        clear hc hc'
        cases hB : ((f k).toList == (f' k).toList && q k == q' k)
        · rw [hB] at EQ
          have HN : Hid (aEq f q n f' q' n = false) := by
            refine decide_eq_false fun hh => ?_
            have h2 := hh.2 k hk
            rw [h2.1, h2.2] at hB
            simp at hB
          clear hB
          go_wp2_with fail
          go_region
          all_goals
            go_wp2
            go_ret
            first | exact ⟨by rw [HN.out]; rfl, B1.out⟩ | exact ⟨by rw [HN.out]; rfl, B1.out.drew⟩
        · rw [hB] at EQ
          have HN : Hid (∀ i, i < k + 1 → f i = f' i ∧ q i = q' i) := fun i hi => by
            by_cases hik : i < k
            · exact S1.out i hik
            · obtain rfl : i = k := by omega
              rw [Bool.and_eq_true] at hB
              exact ⟨str_eq hB.1, by simpa using hB.2⟩
          clear hB
          go_wp2_with fail
          go_region
          all_goals
            go_wp2
            go_roundg gg
            case measure => omega
            case rel => exact ⟨k + 1, by first | rfl | simp, by omega, by first | exact B1 | exact B1.out.drew, HN⟩
      · obtain rfl : k = n := by omega
        have hk' : ¬ (k : Int) < k := by omega
        have HN : Hid (aEq f q k f' q' k = true) := decide_eq_true ⟨rfl, S1.out⟩
        go_wp2
        go_ret
        exact ⟨by rw [HN.out]; rfl, B1.out⟩
  · have hn' : ((n : Int) != n') = true := by simp; omega
    have HN : Hid (aEq f q n f' q' n' = false) := decide_eq_false fun hh => hn hh.1
    clear h h'
    go_enter Tryd.func25, Tryd.ntmps25
    go_wp2
    go_ret
    exact ⟨by rw [HN.out]; rfl, Below.refl _ _⟩
end Go.Proofs.YtcoccggimbficaaDoor
