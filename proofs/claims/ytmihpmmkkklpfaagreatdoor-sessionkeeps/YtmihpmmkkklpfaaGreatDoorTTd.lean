import Derived.Test.YtmihpmmkkklpfaaGreatDoorTTc
import Derived.Laws.AppendOwn
import Derived.Lib.Bytealg
import Derived.Lib.Walk
import Derived.BigCall
import Derived.BigGuard
import Derived.Deep.Draws
import Derived.Laws.Strings3
import Derived.Lib.CountLaws
import Derived.Lib.Slices
import Derived.Laws.OwnMore
import Derived.Laws.MakeOwn
import Derived.Deep.LoopGhost
import Derived.OwnWalk
namespace Go.Proofs.YtmihpmmkkklpfaaGreatDoor.Tp
open Go Go.RowKit
set_option linter.unusedSimpArgs false
set_option linter.unusedVariables false


set_option maxHeartbeats 1000000 in
set_option maxRecDepth 100000 in
theorem count_one (s : ByteArray) (c : UInt8) (w : World) :
    Calls Tryz.prog 133 #[.string s, .string ⟨#[c]⟩] w fun e w' => e = .returned (.int .i64 (Lib.countByte s.data.toList c)) ∧ w' = w := by
  go_enter Tryz.func133, Tryz.ntmps133
  go_wp2
  rw [run_callFunc_extern Tryz.func152 (by kernel_rfl) (by kernel_rfl) (by kernel_rfl) (e := Extern.BytealgCount.count) (by kernel_rfl), Lib.run_countString]
  simp only [Result.andThen]
  rw [Oper.upon_value]
  go_wp2
  go_ret
  exact ⟨rfl, rfl⟩
def setIt (w : World) (g : Nat) (s : ByteArray) (k : Nat) : World := { w with heap := w.heap.setIfInBounds g (.stringIter s k) }
theorem setIt_heap {w : World} {g : Nat} {s : ByteArray} {k k' : Nat} (h : w.heap[g]? = some (.stringIter s k)) : (setIt w g s k').heap[g]? = some (.stringIter s k') := by
  have hg : g < w.heap.size := by
    rcases Nat.lt_or_ge g w.heap.size with h1 | h1
    · exact h1
    · rw [Array.getElem?_eq_none h1] at h; cases h
  show (w.heap.setIfInBounds g (.stringIter s k'))[g]? = _
  rw [Array.getElem?_setIfInBounds]
  simp [hg]
theorem setIt_below {B : Nat} {w0 w : World} (hb : Below B w0 w) (g : Nat) (hg : B ≤ g) (s : ByteArray) (k : Nat) : Below B w0 (setIt w g s k) := by
  refine hb.trans ⟨rfl, rfl, rfl, by simp [setIt], fun i hi => ?_⟩
  show (w.heap.setIfInBounds g (.stringIter s k))[i]? = _
  rw [Array.getElem?_setIfInBounds, if_neg (by omega)]
theorem block_lt {w : World} {g : Nat} {o : Obj} (h : w.heap[g]? = some o) : g < w.heap.size := by
  rcases Nat.lt_or_ge g w.heap.size with h1 | h1
  · exact h1
  · rw [Array.getElem?_eq_none h1] at h; cases h

theorem next_at {w : World} {g : Nat} {s : ByteArray} {k : Nat} (hit : w.heap[g]? = some (.stringIter s k)) (ty : TypeId) (h : k < s.size) (r n : Nat) (hd : Utf8.decode s k = (r, n)) :
    (Instr.next (.pointer (some ⟨g, 0, none⟩)) true ty).run Tryz.prog w = .ok (.tuple #[.bool true, .int .i64 k, .int .i32 r]) (setIt w g s (k + n)) := by
  simp only [Instr.next, getObj, setObj, Sem.run_bind, Sem.run, hit, Result.andThen, h, if_true, hd]
  simp [goInt, setIt]
theorem next_end {w : World} {g : Nat} {s : ByteArray} {k : Nat} (hit : w.heap[g]? = some (.stringIter s k)) (ty : TypeId) (h : ¬ k < s.size) :
    (Instr.next (.pointer (some ⟨g, 0, none⟩)) true ty).run Tryz.prog w = .ok (.tuple #[.bool false]) w := by
  simp [Instr.next, getObj, Sem.run, hit, h]


/-- The levels from a place on, the first of which began earlier. -/
def lvs (s : ByteArray) : Nat → Nat → Nat → List ByteArray
  | 0, f, _ => [s.extract f s.size]
  | b + 1, f, i => if i < s.size then (if atB s i = 47 then s.extract f i :: lvs s b (i + 1) (i + 1) else lvs s b f (i + 1)) else [s.extract f s.size]
def levels (s : ByteArray) : List ByteArray := lvs s s.size 0 0
theorem lvs_end (s : ByteArray) (b f i : Nat) (h : ¬ i < s.size) : lvs s b f i = [s.extract f s.size] := by
  cases b with
  | zero => rfl
  | succ b => simp [lvs, h]
theorem lvs_cut (s : ByteArray) (b f i : Nat) (h : i < s.size) (hb : s.size ≤ i + b) (hc : atB s i = 47) : ∃ b', lvs s b f i = s.extract f i :: lvs s b' (i + 1) (i + 1) ∧ s.size ≤ i + 1 + b' := by
  cases b with
  | zero => omega
  | succ b => exact ⟨b, by simp [lvs, h, hc], by omega⟩
theorem lvs_on (s : ByteArray) (b f i : Nat) (h : i < s.size) (hb : s.size ≤ i + b) (hc : ¬ atB s i = 47) : ∃ b', lvs s b f i = lvs s b' f (i + 1) ∧ s.size ≤ i + 1 + b' := by
  cases b with
  | zero => omega
  | succ b => exact ⟨b, by simp [lvs, h, hc], by omega⟩



/-- Does a sign stand among so many first bytes? -/
def hsN (s : ByteArray) : Nat → Bool
  | 0 => false
  | n + 1 => hsN s n || (atB s n == 43) || (atB s n == 35)
def hasS (s : ByteArray) : Bool := hsN s s.size
theorem hsN_iff (s : ByteArray) (n : Nat) : hsN s n = true ↔ ∃ i, i < n ∧ (atB s i = 43 ∨ atB s i = 35) := by
  induction n with
  | zero => simp [hsN]
  | succ n ih =>
    simp only [hsN, Bool.or_eq_true, beq_iff_eq, ih]
    constructor
    · rintro ((⟨i, h1, h2⟩ | h) | h)
      · exact ⟨i, by omega, h2⟩
      · exact ⟨n, by omega, .inl h⟩
      · exact ⟨n, by omega, .inr h⟩
    · rintro ⟨i, h1, h2⟩
      by_cases e : i = n
      · subst e
        rcases h2 with h2 | h2
        · exact .inl (.inr h2)
        · exact .inr h2
      · exact .inl (.inl ⟨i, by omega, h2⟩)

theorem dec_sg (c d e f : Nat) : 1 ≤ (dec c d e f).2 ∧ (dec c d e f).2 ≤ 4 ∧ (((dec c d e f).1 = 43 ∨ (dec c d e f).1 = 35) ↔ (c = 43 ∨ c = 35)) ∧ (2 ≤ (dec c d e f).2 → 128 ≤ d) ∧ (3 ≤ (dec c d e f).2 → 128 ≤ e) ∧ (4 ≤ (dec c d e f).2 → 128 ≤ f) := by
  unfold dec
  by_cases k1 : c < 0x80
  · rw [if_pos k1]; simp
  rw [if_neg k1]
  by_cases k2 : c / 32 = 6 ∧ d / 64 = 2
  · rw [if_pos k2]
    split
    · simp only; omega
    · simp only; omega
  rw [if_neg k2]
  by_cases k3 : c / 16 = 14 ∧ d / 64 = 2 ∧ e / 64 = 2
  · rw [if_pos k3]
    split
    · simp only; omega
    · simp only; omega
  rw [if_neg k3]
  by_cases k4 : c / 8 = 30 ∧ d / 64 = 2 ∧ e / 64 = 2 ∧ f / 64 = 2
  · rw [if_pos k4]
    split
    · simp only; omega
    · simp only; omega
  rw [if_neg k4]
  simp only; omega



theorem lvs_size (s : ByteArray) : ∀ (b f i : Nat) (t : ByteArray), t ∈ lvs s b f i → t.size ≤ s.size
  | 0, f, i, t, h => by
    simp only [lvs, List.mem_singleton] at h
    subst h
    simp [ByteArray.size_extract]
  | b + 1, f, i, t, h => by
    unfold lvs at h
    split at h
    · rename_i hi
      split at h
      · rcases List.mem_cons.1 h with h | h
        · subst h; simp [ByteArray.size_extract]; omega
        · exact lvs_size s b _ _ t h
      · exact lvs_size s b _ _ t h
    · simp only [List.mem_singleton] at h
      subst h
      simp [ByteArray.size_extract]
theorem lvs_most (s : ByteArray) : ∀ (b f i : Nat), (lvs s b f i).length ≤ b + 1
  | 0, f, i => by simp [lvs]
  | b + 1, f, i => by
    unfold lvs
    split
    · split
      · have := lvs_most s b (i + 1) (i + 1); simp; omega
      · have := lvs_most s b f (i + 1); omega
    · simp
def isHash (t : ByteArray) : Bool := t.toList == (⟨#[35]⟩ : ByteArray).toList
/-- Does a sign stand in a level where none may? -/
def lvX (t : ByteArray) (more : Bool) : Bool := (hasS t && decide (1 < t.size)) || (isHash t && more)
def lvAny : List ByteArray → Bool
  | [] => false
  | t :: r => lvX t (!r.isEmpty) || lvAny r
def rfc (s : ByteArray) : Int := if ct s = 0 then (if lvAny (levels s) then 52 else 0) else ct s



abbrev Bs := List UInt8
def unB (s : ByteArray) : Bs := s.data.toList
theorem un_size (s : ByteArray) : (unB s).length = s.size := by simp [unB]
theorem atB_un (s : ByteArray) (i : Nat) : atB s i = ((unB s)[i]?.getD 0).toNat := atB_list s i



/-- A slice of texts, as it lies in memory. -/
def Row (w : World) (v : Value) (xs : List ByteArray) : Prop :=
  ∃ a n cap, v = .slice a n cap ∧ n = xs.length ∧ n ≤ cap ∧ (xs ≠ [] → ∃ g o, a = some ⟨g, o, none⟩ ∧ g < w.heap.size ∧ ∀ k x, xs[k]? = some x → w.cell? ⟨g, o + k, none⟩ = some (.string x))
theorem Row.later {w w' : World} {v : Value} {xs : List ByteArray} (h : Row w v xs) (hb : Below w.heap.size w w') : Row w' v xs := by
  obtain ⟨a, n, cap, rfl, hn, hc, hx⟩ := h
  refine ⟨a, n, cap, rfl, hn, hc, fun hne => ?_⟩
  obtain ⟨g, o, rfl, hg, hk⟩ := hx hne
  exact ⟨g, o, rfl, Nat.lt_of_lt_of_le hg hb.size, fun k x hk' => by rw [hb.cell (by exact hg)]; exact hk k x hk'⟩
theorem Row.drew {w : World} {v : Value} {xs : List ByteArray} (h : Row w v xs) (n : Nat) : Row (w.drewN n) v xs := h.later ⟨rfl, rfl, rfl, Nat.le_refl _, fun _ _ => rfl⟩
theorem un_list (s : ByteArray) : s.toList = unB s := Lib.toList_data s
theorem eq_two (s t : ByteArray) : (s.toList == t.toList) = decide (unB s = unB t) := by
  rw [un_list, un_list]; by_cases h : unB s = unB t <;> simp [h]
theorem eq_one (s : ByteArray) (c : UInt8) : (s.toList == (⟨#[c]⟩ : ByteArray).toList) = decide (unB s = [c]) := eq_two s ⟨#[c]⟩
theorem countB (s : ByteArray) (c : UInt8) : Lib.countByte s.data.toList c ≤ s.size := by
  unfold Lib.countByte
  have := List.count_le_length (a := c) (l := s.data.toList)
  simpa using this

theorem dec_sl (c d e f : Nat) : ((dec c d e f).1 = 47 ↔ c = 47) ∧ (c = 47 → (dec c d e f).2 = 1) := by
  unfold dec
  by_cases k1 : c < 0x80
  · rw [if_pos k1]; simp
  rw [if_neg k1]
  by_cases k2 : c / 32 = 6 ∧ d / 64 = 2
  · rw [if_pos k2]
    split
    · simp only; omega
    · simp only; omega
  rw [if_neg k2]
  by_cases k3 : c / 16 = 14 ∧ d / 64 = 2 ∧ e / 64 = 2
  · rw [if_pos k3]
    split
    · simp only; omega
    · simp only; omega
  rw [if_neg k3]
  by_cases k4 : c / 8 = 30 ∧ d / 64 = 2 ∧ e / 64 = 2 ∧ f / 64 = 2
  · rw [if_pos k4]
    split
    · simp only; omega
    · simp only; omega
  rw [if_neg k4]
  simp only; omega
theorem lvs_skip (s : ByteArray) (f : Nat) : ∀ (n b k : Nat), k + n ≤ s.size → s.size ≤ k + b → (∀ j, k ≤ j → j < k + n → ¬ atB s j = 47) → ∃ b', lvs s b f k = lvs s b' f (k + n) ∧ s.size ≤ k + n + b'
  | 0, b, k, _, hb, _ => ⟨b, rfl, hb⟩
  | n + 1, b, k, hk, hb, h => by
    obtain ⟨b1, e1, e2⟩ := lvs_on s b f k (by omega) hb (h k (Nat.le_refl _) (by omega))
    obtain ⟨b2, e3, e4⟩ := lvs_skip s f n b1 (k + 1) (by omega) e2 (fun j h1 h2 => h j (by omega) (by omega))
    exact ⟨b2, by rw [e1, e3, show k + 1 + n = k + (n + 1) by omega], by omega⟩
/-- A rune of a text, seen from its bytes. -/
theorem rune_at (s : ByteArray) (k r n : Nat) (hk : k < s.size) (hd : Utf8.decode s k = (r, n)) : 1 ≤ n ∧ k + n ≤ s.size ∧ (r = 47 ↔ atB s k = 47) ∧ (r = 47 → n = 1) ∧ (¬ r = 47 → ∀ j, k ≤ j → j < k + n → ¬ atB s j = 47) := by
  have h1 := dec_sl (atB s k) (atB s (k + 1)) (atB s (k + 2)) (atB s (k + 3))
  have h2 := dec_sg (atB s k) (atB s (k + 1)) (atB s (k + 2)) (atB s (k + 3))
  rw [← decode_dec, hd] at h1 h2
  simp only at h1 h2
  obtain ⟨n1, n4, _, g2, g3, g4⟩ := h2
  have a1 := lt_of_atB s (k + 1)
  have a2 := lt_of_atB s (k + 2)
  have a3 := lt_of_atB s (k + 3)
  refine ⟨n1, ?_, h1.1, fun h => h1.2 (h1.1.1 h), ?_⟩
  · have hc : n = 1 ∨ n = 2 ∨ n = 3 ∨ n = 4 := by omega
    rcases hc with rfl | rfl | rfl | rfl
    · omega
    · have := a1 (by have := g2 (by omega); omega); omega
    · have := a2 (by have := g3 (by omega); omega); omega
    · have := a3 (by have := g4 (by omega); omega); omega
  · intro hr j j1 j2 hj
    have hc : j = k ∨ j = k + 1 ∨ j = k + 2 ∨ j = k + 3 := by omega
    rcases hc with rfl | rfl | rfl | rfl
    · exact hr (h1.1.2 hj)
    · have := g2 (by omega); omega
    · have := g3 (by omega); omega
    · have := g4 (by omega); omega
theorem iter_grown {w w' : World} {g : Nat} {s : ByteArray} {k : Nat} {row : Option Nat} (h : w.heap[g]? = some (.stringIter s k)) (hg : w.grownBy w' row) (hne : some g ≠ row) : w'.heap[g]? = some (.stringIter s k) := by
  rw [hg.block g (block_lt h) hne]; exact h
theorem row_iter {w : World} {base : Nat} {v : Value} {n : Nat} {xs : List Value} {g : Nat} {s : ByteArray} {k : Nat} (h : w.ownsRow base 9 1 v n xs) (hi : w.heap[g]? = some (.stringIter s k)) : some g ≠ v.ownBlock := by
  rcases h.2 with ⟨rfl, _⟩ | ⟨q, cap, cur, rfl, _, hq, _⟩
  · intro e; cases e
  · intro e
    have e' : g = q := Option.some.inj e
    subst e'
    rw [hi] at hq; cases hq
theorem row_setIt {w : World} {base : Nat} {v : Value} {n : Nat} {xs : List Value} {g : Nat} {s : ByteArray} {k k' : Nat} (h : w.ownsRow base 9 1 v n xs) (hi : w.heap[g]? = some (.stringIter s k)) : (setIt w g s k').ownsRow base 9 1 v n xs := by
  refine ⟨h.1, ?_⟩
  rcases h.2 with h2 | ⟨q, cap, cur, rfl, hb, hq, h3⟩
  · exact .inl h2
  · refine .inr ⟨q, cap, cur, rfl, hb, ?_, h3⟩
    have hne : ¬ g = q := by
      rintro rfl; rw [hi] at hq; cases hq
    show (w.heap.setIfInBounds g (.stringIter s k'))[q]? = _
    rw [Array.getElem?_setIfInBounds, if_neg hne]; exact hq

set_option maxRecDepth 100000 in
set_option maxHeartbeats 2000000 in
theorem tlevels_any (s : ByteArray) (hs : s.size ≤ 1000000) (w : World) : Calls Tryz.prog 105 #[.string s] w fun e w' => ∃ v, e = .returned v ∧ w'.ownsRow w.heap.size 9 1 v (levels s).length ((levels s).map Value.string) ∧ Below w.heap.size w w' := by
  obtain ⟨i0, hi, hz0, hz1, hz2⟩ : ∃ i0, Tryz.prog.info? 9 = some i0 ∧ i0.zero = some (.string ⟨#[]⟩) ∧ i0.size = 1 ∧ i0.bytes = 16 := ⟨_, rfl, rfl, rfl, rfl⟩
  have HS : Hid (s.size ≤ 1000000) := hs
  have HT : Hid (levels s = [] ++ lvs s s.size 0 0) := rfl
  obtain ⟨n, hn, hn2⟩ : ∃ n : Nat, Lib.countByte s.data.toList 47 = n ∧ n ≤ 1000000 := ⟨_, rfl, Nat.le_trans (countB s 47) hs⟩
  have hw : IntKind.i64.wrap ((n : Int) + 1) = (n : Int) + 1 := by rw [IntKind.wrap_i64]; omega
  obtain ⟨wm, hmk, hom, hgm⟩ := run_make_own (P := Tryz.prog) w w.heap.size 64 9 i0 (.string ⟨#[]⟩) 1 Tryz.underlying64 hi hz0 hz1 .i64 .i64 (n + 1) (by rw [hz2]; omega) (by unfold maxLen; omega) (Nat.le_refl _)
  have hmk' : (Instr.makeSlice 64 (.int .i64 0) (.int .i64 ((n : Int) + 1))).run Tryz.prog w = .ok (.slice (some ⟨w.heap.size, 0, none⟩) 0 (n + 1)) wm := hmk
  have bm : Below w.heap.size w wm := ⟨hgm.os, hgm.tape, hgm.output, hgm.size, fun k hk => hgm.block k hk (fun e => by cases e)⟩
  have I0 : Hid ((wm.iter s 0).heap[wm.heap.size]? = some (.stringIter s 0)) := World.iter_heap wm s 0
  have B0 : Hid (Below w.heap.size w (wm.iter s 0)) := bm.trans ((below_iter wm s 0).mono bm.size)
  have O0 : Hid ((wm.iter s 0).ownsRow w.heap.size 9 1 (.slice (some ⟨w.heap.size, 0, none⟩) 0 (n + 1)) 0 []) := hom.alloc _
  have HL0 : Hid (w.heap.size ≤ wm.heap.size) := bm.size
  clear hs hn2 hmk hom hgm bm
  go_enter Tryz.func105, Tryz.ntmps105
  go_wp2_with (go_at_call 133; refine (count_one s 47 _).mono ?_; rintro e w' ⟨rfl, hee⟩; obtain rfl := hee.symm; clear hee; rw [hn])
  clear hmk'
  go_loopg [3, 4] s.size (fun g s3 s4 wx => ∃ (f i b : Nat) (xs : List ByteArray), f ≤ i ∧ i ≤ s.size ∧ g = s.size - i ∧ s4 = .int .i64 f ∧ Hid (wx.heap[wm.heap.size]? = some (.stringIter s i)) ∧ Hid (wx.ownsRow w.heap.size 9 1 s3 xs.length (xs.map Value.string)) ∧ Hid (Below w.heap.size w wx) ∧ Hid (levels s = xs ++ lvs s b f i) ∧ Hid (s.size ≤ i + b) ∧ Hid (xs.length ≤ i))
  case atStart => exact ⟨0, 0, s.size, [], Nat.le_refl _, Nat.zero_le _, rfl, rfl, I0, O0, B0, HT, by show _ ≤ _; omega, Nat.le_refl _⟩
  case round =>
    obtain ⟨f, i, b, xs, hfi, hisz, rfl, rfl, HI, HO, HB, HL, HF, HN⟩ := hrel
    by_cases hlt : i < s.size
    · obtain ⟨r, m, hd⟩ : ∃ r m, Utf8.decode s i = (r, m) := ⟨_, _, rfl⟩
      obtain ⟨m1, m2, m3, m4, m5⟩ := rune_at s i r m hlt hd
      have hnx := fun ty => next_at HI.out ty hlt r m hd
      have hit2 := setIt_heap (k' := i + m) HI.out
      have B2 := setIt_below HB.out wm.heap.size HL0.out s (i + m)
      have O2 := row_setIt (k' := i + m) HO.out HI.out
      generalize setIt wr wm.heap.size s (i + m) = w2 at *
      have HB2 : Hid (Below w.heap.size w w2) := B2
      have HI2 : Hid (w2.heap[wm.heap.size]? = some (.stringIter s (i + m))) := hit2
      have HO2 : Hid (w2.ownsRow w.heap.size 9 1 _ xs.length (xs.map Value.string)) := O2
      clear B2 hit2 O2 hd HI HO HB
      have hw1 : IntKind.i64.wrap ((i : Int) + 1) = (i : Int) + 1 := by rw [IntKind.wrap_i64]; have := HS.out; omega
      by_cases h47 : r = 47
      · obtain rfl := m4 h47
        have HC : Hid (atB s i = 47) := m3.1 h47
        subst h47
        have hfi' : (f : Int) ≤ i := by omega
        have hisz' : (i : Int) ≤ s.size := by omega
        clear m1 m2 m3 m4 m5
        go_wp2_with (at_builtin; refine wpList_append_own _ rfl (.tmp 19) (.tmp 24) 64 rfl w.heap.size 9 i0 (.string ⟨#[]⟩) 1 16 Tryz.underlying64 hi hz0 hz1 hz2 rfl (by decide) _ _ _ rfl (HO2.out.alloc _) ⟨_, 0, none⟩ 1 1 [.string (s.extract f i)] rfl rfl ?d1 ?d2 ?d3 ?d4 ?d5 ?_)
        case d1 => exact cell_one_new _ _ _
        case d2 => intro u hu; simp at hu; subst hu; rfl
        case d3 => have := HN.out; have := HS.out; unfold maxLen; omega
        case d4 => have := HN.out; have := HS.out; omega
        case d5 => have := HB2.out.size; simp; omega
        intro v2 w3 hown2 hgrow2 hnil2
        have hb2 := (HB2.out.alloc HB2.out.size _).grown hgrow2 (by have := HB2.out.size; simp; omega) (by intro q hq; exact (HO2.out.lt _ hq).1)
        have hi3 := iter_grown (g := wm.heap.size) (k := i + 1) (s := s) (by rw [heap_alloc_old _ _ (block_lt HI2.out)]; exact HI2.out) hgrow2 (row_iter HO2.out HI2.out)
        obtain ⟨b', e1, e2⟩ := lvs_cut s b f i hlt HF.out HC.out
        have HI3 : Hid (w3.heap[wm.heap.size]? = some (.stringIter s (i + 1))) := hi3
        have HO3 : Hid (w3.ownsRow w.heap.size 9 1 v2 (xs ++ [s.extract f i]).length ((xs ++ [s.extract f i]).map Value.string)) := by show World.ownsRow _ _ _ _ _ _ _; simpa using hown2
        have HB3 : Hid (Below w.heap.size w w3) := hb2
        have HL3 : Hid (levels s = (xs ++ [s.extract f i]) ++ lvs s b' (i + 1) (i + 1)) := by show _ = _; rw [HL.out, e1]; simp
        have HF3 : Hid (s.size ≤ i + 1 + b') := e2
        have HN3 : Hid ((xs ++ [s.extract f i]).length ≤ i + 1) := by show _ ≤ _; have := HN.out; simp; omega
        clear hown2 hgrow2 hnil2 hb2 e1 e2 hi3
        go_wp2
        go_roundg (s.size - (i + 1))
        case measure => omega
        case rel => exact ⟨i + 1, i + 1, b', xs ++ [s.extract f i], Nat.le_refl _, by omega, by omega, by first | rfl | simp, HI3, HO3, HB3, HL3, HF3, HN3⟩
      · have h47' : ((r : Int) == 47) = false := by rw [beq_eq_false_iff_ne]; omega
        obtain ⟨b', e1, e2⟩ := lvs_skip s f m b i m2 HF.out (m5 h47)
        have HL3 : Hid (levels s = xs ++ lvs s b' f (i + m)) := by show _ = _; rw [HL.out, e1]
        have HF3 : Hid (s.size ≤ i + m + b') := e2
        have HN3 : Hid (xs.length ≤ i + m) := Nat.le_trans HN.out (by omega)
        have HM : Hid (1 ≤ m ∧ i + m ≤ s.size) := ⟨m1, m2⟩
        clear h47 e1 e2 m1 m2 m3 m4 m5
        go_wp2
        go_roundg (s.size - (i + m))
        case measure => have := HM.out; omega
        case rel => exact ⟨f, i + m, b', xs, by omega, HM.out.2, by omega, rfl, HI2, HO2, HB2, HL3, HF3, HN3⟩
    · obtain rfl : i = s.size := by omega
      have hnx := fun ty => next_end HI.out ty hlt
      have hfi' : (f : Int) ≤ s.size := by omega
      have HE : Hid (levels s = xs ++ [s.extract f s.size]) := by show _ = _; rw [HL.out, lvs_end s b f _ hlt]
      go_wp2_with (at_builtin; refine wpList_append_own _ rfl (.tmp 28) (.tmp 32) 64 rfl w.heap.size 9 i0 (.string ⟨#[]⟩) 1 16 Tryz.underlying64 hi hz0 hz1 hz2 rfl (by decide) _ _ _ rfl (HO.out.alloc _) ⟨_, 0, none⟩ 1 1 [.string (s.extract f s.size)] rfl rfl (cell_one_new _ _ _) ?x2 ?x3 ?x4 ?x5 ?_)
      any_goals first | rfl | (intro u hu; simp at hu; subst hu; rfl; done) | (have := HN.out; have := HS.out; unfold maxLen; omega; done) | (have := HN.out; have := HS.out; omega; done) | (have := HB.out.size; simp; omega; done)
      intro v2 w2 hown2 hgrow2 hnil2
      have hb2 := (HB.out.alloc HB.out.size _).grown hgrow2 (by have := HB.out.size; simp; omega) (by intro q hq; exact (HO.out.lt _ hq).1)
      have HO2 : Hid (w2.ownsRow w.heap.size 9 1 v2 (levels s).length ((levels s).map Value.string)) := by show World.ownsRow _ _ _ _ _ _ _; rw [HE.out]; simpa using hown2
      have HB2 : Hid (Below w.heap.size w w2) := hb2
      clear hown2 hgrow2 hnil2 hb2
      go_wp2
      go_ret
      exact ⟨v2, rfl, HO2.out, HB2.out⟩
end Go.Proofs.YtmihpmmkkklpfaaGreatDoor.Tp
