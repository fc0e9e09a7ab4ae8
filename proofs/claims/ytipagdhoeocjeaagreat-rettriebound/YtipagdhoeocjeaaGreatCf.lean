import Derived.Test.YtipagdhoeocjeaaGreatShelf
import Derived.Test.YtipagdhoeocjeaaGreatCc
import Derived.Laws.Runes
import Derived.WalkMore
import Derived.Deep.QuietTactic
import Derived.BigQuiet
import Derived.Test.YtipagdhoeocjeaaGreatRb
import Derived.Laws.MakeOwn
namespace Go.Proofs.YtipagdhoeocjeaaGreat
open Go Go.RowKit
set_option linter.unusedSimpArgs false
set_option linter.unusedVariables false

set_option maxRecDepth 1000000 in
set_option maxHeartbeats 400000 in
theorem rune_bad (r : Int) (h : 128 ≤ r) (hn : ¬ r = 65533) (hv : Lib.validRune r = false) (w : World) : Calls Tryz.prog 75 #[.string ⟨#[43, 35]⟩, .int .i32 r] w fun e w' => e = .returned (.int .i64 (-1)) ∧ Below w.heap.size w w' := by
  have h1 : ¬ r < 128 := by omega
  have h0 : 0 ≤ r := by omega
  go_enter Tryz.func75, Tryz.ntmps75
  go_wp2_with (go_at_call 87; refine (Tryz.utf8_ValidRune _ _).mono ?_; rintro e w' ⟨rfl, rfl⟩; rw [hv])
  go_ret
  exact ⟨rfl, Below.refl _ _⟩

theorem valid_rune (r : Int) (h : Lib.validRune r = true) : Utf8.valid r = true := by
  revert h
  simp [Lib.validRune, Utf8.valid]
  omega

set_option maxRecDepth 1000000 in
set_option maxHeartbeats 400000 in
theorem rune_good (r : Int) (h : 128 ≤ r) (hn : ¬ r = 65533) (hv : Lib.validRune r = true) (w : World) : Calls Tryz.prog 75 #[.string ⟨#[43, 35]⟩, .int .i32 r] w fun e w' => e = .returned (.int .i64 (-1)) ∧ Below w.heap.size w w' := by
  have h1 : ¬ r < 128 := by omega
  have h0 : 0 ≤ r := by omega
  have hcv : ∀ w, (convert 21 9 (.int .i32 r)).run Tryz.prog w = .ok (.string (Utf8.encode r)) w := fun w => run_convert_int_string w 21 9 .i32 r (by rw [Tryz.underlying21]; rfl) Tryz.underlying9
  obtain ⟨f1, f2, f3⟩ := encode_facts r (valid_rune r hv) h
  generalize Utf8.encode r = rs at *
  have hs3 : rs.size = 2 ∨ rs.size = 3 ∨ rs.size = 4 := by omega
  rcases hs3 with hs | hs | hs
  · have f4 := f3 (by omega)
    have hs' : (rs.size : Int) - 1 = 1 := by omega
    have hl : (1 : Int) < rs.size := by omega
    obtain ⟨x, hx⟩ : ∃ x : UInt8, rs[1]'(by omega) = x := ⟨_, rfl⟩
    have hx2 : 128 ≤ x.toNat := by rw [← hx]; simpa [hs] using f4
    have hne : ((((⟨#[43, 35]⟩ : ByteArray)[1]'(by decide)).toNat : Int) != (x.toNat : Int)) = true := by
      have e : ((⟨#[43, 35]⟩ : ByteArray)[1]'(by decide)).toNat = 35 := rfl
      rw [e]; simp; omega
    have IB : Hid (∀ w, Calls Tryz.prog 86 #[.string ByteArray.empty, .int .u8 (x.toNat : Int)] w fun e w' => e = .returned (.int .i64 (-1)) ∧ w' = w) := fun w => Tryz.strings_IndexByte ByteArray.empty _ w
    have hw2 : IntKind.i64.wrap 2 = 2 := by kernel_rfl
    clear f3 f4 f1 f2 h
    go_enter Tryz.func75, Tryz.ntmps75
    go_wp2_with (go_at_call 87; refine (Tryz.utf8_ValidRune _ _).mono ?_; rintro e w' ⟨rfl, rfl⟩; rw [hv])
    go_step3
    go_wp2
    go_loopw [9, 10] (fun i f wx => i = .int .i64 1 ∧ f = .int .i64 0 ∧ wx = w') (fun _ _ _ => 0)
    case atStart => exact ⟨by first | rfl | simp [hs'], rfl, rfl⟩
    case round =>
      obtain ⟨rfl, rfl, rfl⟩ := hrel
      go_wp2
      go_step3
      go_wp2
      go_quiet (fail)
      have hb1 : Below wr.heap.size wr (wr.drewN nq) := below_drewN (Below.refl _ _) nq
      obtain ⟨w1, hw1⟩ : ∃ w1, w1 = wr.drewN nq := ⟨_, rfl⟩
      rw [← hw1] at hb1 ⊢
      have B1 : Hid (Below wr.heap.size wr w1) := hb1
      clear hw1 hb1
      go_wp2
      go_quiet ((go_at_call 86; exact Calls.quiet_of_same (IB.out _)))
      have hb2 : Below w1.heap.size w1 (w1.drewN nq) := below_drewN (Below.refl _ _) nq
      obtain ⟨w2, hw2⟩ : ∃ w2, w2 = w1.drewN nq := ⟨_, rfl⟩
      rw [← hw2] at hb2 ⊢
      have B2 : Hid (Below wr.heap.size wr w2) := B1.out.trans (hb2.mono B1.out.size)
      clear hw2 hb2
      go_wp2
      exact bodyPost_ret (P := Tryz.prog) (fn := Tryz.f75) (R := fun e w' => e = Ending.returned (Value.int IntKind.i64 (-1)) ∧ Below wr.heap.size wr w') (results_tmp rfl _ _ _) rfl ⟨rfl, B2.out⟩
  · have hs' : (rs.size : Int) - 1 = 2 := by omega
    clear f3 f1 f2 h
    go_enter Tryz.func75, Tryz.ntmps75
    go_wp2_with (go_at_call 87; refine (Tryz.utf8_ValidRune _ _).mono ?_; rintro e w' ⟨rfl, rfl⟩; rw [hv])
    go_step3
    go_wp2
    go_loopw [9, 10] (fun i f wx => i = .int .i64 2 ∧ f = .int .i64 0 ∧ wx = w') (fun _ _ _ => 0)
    case atStart => exact ⟨by first | rfl | simp, rfl, rfl⟩
    case round =>
      obtain ⟨rfl, rfl, rfl⟩ := hrel
      go_wp2
      try rw [Exit.noGoto_ret]
      go_ret
      exact ⟨rfl, Below.refl _ _⟩
  · have hs' : (rs.size : Int) - 1 = 3 := by omega
    clear f3 f1 f2 h
    go_enter Tryz.func75, Tryz.ntmps75
    go_wp2_with (go_at_call 87; refine (Tryz.utf8_ValidRune _ _).mono ?_; rintro e w' ⟨rfl, rfl⟩; rw [hv])
    go_step3
    go_wp2
    go_loopw [9, 10] (fun i f wx => i = .int .i64 3 ∧ f = .int .i64 0 ∧ wx = w') (fun _ _ _ => 0)
    case atStart => exact ⟨by first | rfl | simp, rfl, rfl⟩
    case round =>
      obtain ⟨rfl, rfl, rfl⟩ := hrel
      go_wp2
      try rw [Exit.noGoto_ret]
      go_ret
      exact ⟨rfl, Below.refl _ _⟩

set_option maxRecDepth 1000000 in
set_option maxHeartbeats 400000 in
theorem rune_err (w : World) : Calls Tryz.prog 75 #[.string ⟨#[43, 35]⟩, .int .i32 65533] w fun e w' => e = .returned (.int .i64 (-1)) ∧ Below w.heap.size w w' := by
  go_enter Tryz.func75, Tryz.ntmps75
  go_wp2
  go_loopw [5, 6] (fun i c w' => ∃ k : Nat, w' = w.iter ⟨#[43, 35]⟩ k ∧ k ≤ 2) (fun _ _ w' => 2 - w'.iterPos w.heap.size)
  case atStart => exact ⟨0, rfl, by omega⟩
  case round =>
    obtain ⟨k, rfl, hk⟩ := hrel
    have : k = 0 ∨ k = 1 ∨ k = 2 := by omega
    rcases this with rfl | rfl | rfl
    · have hnx : ∀ ty, (Instr.next (.pointer (some ⟨w.heap.size, 0, none⟩)) true ty).run Tryz.prog (w.iter ⟨#[43, 35]⟩ 0) = .ok (.tuple #[.bool true, .int .i64 0, .int .i32 43]) (w.iter ⟨#[43, 35]⟩ 1) := fun ty => run_next_any w ⟨#[43, 35]⟩ 0 ty (by decide)
      go_wp2
      go_roundw
      case rel => exact ⟨1, rfl, by omega⟩
      case measure => simp
    · have hnx : ∀ ty, (Instr.next (.pointer (some ⟨w.heap.size, 0, none⟩)) true ty).run Tryz.prog (w.iter ⟨#[43, 35]⟩ 1) = .ok (.tuple #[.bool true, .int .i64 1, .int .i32 35]) (w.iter ⟨#[43, 35]⟩ 2) := fun ty => run_next_any w ⟨#[43, 35]⟩ 1 ty (by decide)
      go_wp2
      go_roundw
      case rel => exact ⟨2, rfl, by omega⟩
      case measure => simp
    · have hnx : ∀ ty, (Instr.next (.pointer (some ⟨w.heap.size, 0, none⟩)) true ty).run Tryz.prog (w.iter ⟨#[43, 35]⟩ 2) = _ := fun ty => run_next_end w ⟨#[43, 35]⟩ 2 ty (by decide)
      go_wp2
      go_ret
      exact ⟨rfl, below_iter _ _ _⟩
end Go.Proofs.YtipagdhoeocjeaaGreat
namespace Go.Proofs.YtipagdhoeocjeaaGreat
open Go Go.RowKit
set_option linter.unusedSimpArgs false
set_option linter.unusedVariables false

/-- Where a sign stands among the two. -/
def ix (r : Nat) : Int := if r = 43 then 0 else if r = 35 then 1 else -1
theorem ix_ascii : ∀ r : Fin 128, Lib.indexByte (⟨#[43, 35]⟩ : ByteArray).data.toList ((r.val : Int)).toNat.toUInt8 = ix r.val := by decide
theorem rune_any (r : Nat) (w : World) : Calls Tryz.prog 75 #[.string ⟨#[43, 35]⟩, .int .i32 (r : Int)] w fun e w' => e = .returned (.int .i64 (ix r)) ∧ Below w.heap.size w w' := by
  by_cases h : r < 128
  · have := Tryz.strings_IndexRune_ascii ⟨#[43, 35]⟩ (r : Int) w (by omega) (by omega)
    refine this.mono ?_
    rintro e w' ⟨rfl, rfl⟩
    refine ⟨?_, Below.refl _ _⟩
    rw [← ix_ascii ⟨r, h⟩]
  · have e : ix r = -1 := by simp [ix]; omega
    rw [e]
    by_cases h2 : r = 65533
    · subst h2; exact rune_err w
    · cases hv : Lib.validRune (r : Int) with
      | false => exact rune_bad r (by omega) (by omega) hv w
      | true => exact rune_good r (by omega) (by omega) hv w

/-- Does a sign stand among the runes from a place on? -/
def sgF (s : ByteArray) : Nat → Nat → Bool
  | 0, _ => false
  | b + 1, k => if k < s.size then (if (Utf8.decode s k).1 = 43 ∨ (Utf8.decode s k).1 = 35 then true else sgF s b (k + (Utf8.decode s k).2)) else false
theorem sgF_end (s : ByteArray) (b k : Nat) (h : ¬ k < s.size) : sgF s b k = false := by
  cases b with
  | zero => rfl
  | succ b => simp [sgF, h]
theorem sgF_hit (s : ByteArray) (b k r n : Nat) (h : k < s.size) (hb : s.size ≤ k + b) (hd : Utf8.decode s k = (r, n)) (hr : r = 43 ∨ r = 35) : sgF s b k = true := by
  cases b with
  | zero => omega
  | succ b => simp only [sgF, h, if_true, hd, hr]
theorem sgF_step (s : ByteArray) (b k r n : Nat) (h : k < s.size) (hb : s.size ≤ k + b) (hd : Utf8.decode s k = (r, n)) (hn : 1 ≤ n) (hr : ¬ (r = 43 ∨ r = 35)) : ∃ b', sgF s b k = sgF s b' (k + n) ∧ s.size ≤ k + n + b' := by
  cases b with
  | zero => omega
  | succ b => exact ⟨b, by simp only [sgF, h, if_true, hd, hr, if_false], by omega⟩

/-- An iterator set to another place. -/
def setIt (w : World) (g : Nat) (s : ByteArray) (k : Nat) : World := { w with heap := w.heap.setIfInBounds g (.stringIter s k) }
theorem setIt_heap {w : World} {g : Nat} {s : ByteArray} {k k' : Nat} (h : w.heap[g]? = some (.stringIter s k)) : (setIt w g s k').heap[g]? = some (.stringIter s k') := by
  have hg : g < w.heap.size := by
    rcases Nat.lt_or_ge g w.heap.size with h1 | h1
    · exact h1
    · rw [Array.getElem?_eq_none h1] at h; cases h
  show (w.heap.setIfInBounds g (.stringIter s k'))[g]? = _
  rw [Array.getElem?_setIfInBounds]
  simp [hg]
theorem setIt_below {B : Nat} {w0 w : World} (hb : Below B w0 w) (g : Nat) (hg : B ≤ g) (s : ByteArray) (k : Nat) : Below B w0 (setIt w g s k) := by
  refine hb.trans ⟨rfl, rfl, rfl, by simp [setIt], fun i hi => ?_⟩
  show (w.heap.setIfInBounds g (.stringIter s k))[i]? = _
  rw [Array.getElem?_setIfInBounds, if_neg (by omega)]
theorem block_lt {w : World} {g : Nat} {o : Obj} (h : w.heap[g]? = some o) : g < w.heap.size := by
  rcases Nat.lt_or_ge g w.heap.size with h1 | h1
  · exact h1
  · rw [Array.getElem?_eq_none h1] at h; cases h
theorem iterPos_of {w : World} {g : Nat} {s : ByteArray} {k : Nat} (h : w.heap[g]? = some (.stringIter s k)) : w.iterPos g = k := by
  simp [World.iterPos, h]
theorem next_at {w : World} {g : Nat} {s : ByteArray} {k : Nat} (hit : w.heap[g]? = some (.stringIter s k)) (ty : TypeId) (h : k < s.size) (r n : Nat) (hd : Utf8.decode s k = (r, n)) :
    (Instr.next (.pointer (some ⟨g, 0, none⟩)) true ty).run Tryz.prog w = .ok (.tuple #[.bool true, .int .i64 k, .int .i32 r]) (setIt w g s (k + n)) := by
  simp only [Instr.next, getObj, setObj, Sem.run_bind, Sem.run, hit, Result.andThen, h, if_true, hd]
  simp [goInt, setIt]
theorem next_end {w : World} {g : Nat} {s : ByteArray} {k : Nat} (hit : w.heap[g]? = some (.stringIter s k)) (ty : TypeId) (h : ¬ k < s.size) :
    (Instr.next (.pointer (some ⟨g, 0, none⟩)) true ty).run Tryz.prog w = .ok (.tuple #[.bool false]) w := by
  simp [Instr.next, getObj, Sem.run, hit, h]

set_option maxRecDepth 1000000 in
set_option maxHeartbeats 1000000 in
theorem indexAny_short (s : ByteArray) (h8 : s.size ≤ 8) (w : World) : Calls Tryz.prog 60 #[.string s, .string ⟨#[43, 35]⟩] w fun e w' => ∃ x : Int, e = .returned (.int .i64 x) ∧ decide (0 ≤ x) = sgF s s.size 0 ∧ Below w.heap.size w w' := by
  have h8z : decide ((8 : Int) < (s.size : Int)) = false := decide_eq_false (by omega)
  go_enter Tryz.func60, Tryz.ntmps60
  go_wp2_with (go_at_call 76; refine (Tryz.strings_shouldUseASCIISet _ _).mono ?_; rintro e w' ⟨rfl, he⟩; obtain rfl := he.symm; clear he; rw [h8z])
  go_loopw [9, 10] (fun i c w' => ∃ k b : Nat, Hid (Below w.heap.size w w') ∧ Hid (w'.heap[w.heap.size]? = some (.stringIter s k)) ∧ Hid (sgF s s.size 0 = sgF s b k) ∧ s.size ≤ k + b) (fun _ _ w' => s.size - w'.iterPos w.heap.size)
  case atStart => exact ⟨0, s.size, below_iter _ _ _, World.iter_heap w s 0, rfl, by omega⟩
  case round =>
    obtain ⟨k, b, B, hit, hc, hb⟩ := hrel
    have hpos := iterPos_of hit.out
    by_cases hlt : k < s.size
    · obtain ⟨r, n, hd⟩ : ∃ r n, Utf8.decode s k = (r, n) := ⟨_, _, rfl⟩
      have hn : 1 ≤ n := by have := width_pos s k; rw [hd] at this; exact this
      have hnx := fun ty => next_at hit.out ty hlt r n hd
      have hit2 := setIt_heap (k' := k + n) hit.out
      have B2 := setIt_below B.out w.heap.size (Nat.le_refl _) s (k + n)
      generalize setIt wr w.heap.size s (k + n) = w2 at *
      have HB2 : Hid (Below w.heap.size w w2) := B2
      have HI2 : Hid (w2.heap[w.heap.size]? = some (.stringIter s (k + n))) := hit2
      clear B2 hit2
      by_cases hr : r = 43 ∨ r = 35
      · have HS : Hid (sgF s s.size 0 = true) := hc.out.trans (sgF_hit s b k r n hlt hb hd hr)
        have hx : (0 : Int) ≤ ix r := by rcases hr with rfl | rfl <;> decide
        have HK : Hid ((0 : Int) ≤ k) := Int.natCast_nonneg k
        clear hd hr hc
        go_wp2_with (go_at_call 75; refine (rune_any _ _).mono ?_; rintro e w3 ⟨rfl, hb3⟩; have B3 : Hid (Below w.heap.size w w3) := HB2.out.trans (hb3.mono HB2.out.size); clear hb3)
        go_ret
        exact ⟨_, rfl, by rw [HS.out]; exact decide_eq_true HK.out, B3.out⟩
      · obtain ⟨b', e1, e2⟩ := sgF_step s b k r n hlt hb hd hn hr
        have HS : Hid (sgF s s.size 0 = sgF s b' (k + n)) := hc.out.trans e1
        have hx : ¬ (0 : Int) ≤ ix r := by
          have h1 : ¬ r = 43 := fun h => hr (.inl h)
          have h2 : ¬ r = 35 := fun h => hr (.inr h)
          simp [ix, h1, h2]
        clear hd hr hc e1
        go_wp2_with (go_at_call 75; refine (rune_any _ _).mono ?_; rintro e w3 ⟨rfl, hb3⟩; have B3 : Hid (Below w.heap.size w w3) := HB2.out.trans (hb3.mono HB2.out.size); have I3 : Hid (w3.heap[w.heap.size]? = some (.stringIter s (k + n))) := (hb3.block _ (block_lt HI2.out)).trans HI2.out; clear hb3)
        go_roundw
        case rel => exact ⟨k + n, b', B3, I3, HS, e2⟩
        case measure => rw [iterPos_of I3.out, hpos]; omega
    · have hnx := fun ty => next_end hit.out ty hlt
      have HS : Hid (sgF s s.size 0 = false) := hc.out.trans (sgF_end s b k hlt)
      go_wp2
      go_ret
      exact ⟨_, rfl, by rw [HS.out]; rfl, B.out⟩
end Go.Proofs.YtipagdhoeocjeaaGreat
set_option maxRecDepth 100000
namespace Go.Proofs.YtipagdhoeocjeaaGreat
open Go Go.RowKit
set_option linter.unusedSimpArgs false
set_option linter.unusedVariables false

/-- Does a text hold a sign? -/
def sgn (s : ByteArray) : Bool := if 8 < s.size then decide (0 ≤ Lib.indexAny s.data.toList [43, 35]) else sgF s s.size 0
theorem indexAny_any (s : ByteArray) (hs : s.size ≤ 65535) (w : World) : Calls Tryz.prog 60 #[.string s, .string ⟨#[43, 35]⟩] w fun e w' => ∃ x : Int, e = .returned (.int .i64 x) ∧ decide (0 ≤ x) = sgn s ∧ Below w.heap.size w w' := by
  by_cases h : 8 < s.size
  · have := Tryz.strings_IndexAny_long (fun w => (zero_of_info (P := Tryz.prog) (t := 106) (n := 256) (by kernel_rfl)).1 w) s ⟨#[43, 35]⟩ w (by decide) h (by omega) (by decide) (fun j b hj => by
      match j, hj with
      | 0, hj => simp at hj; subst hj; decide
      | 1, hj => simp at hj; subst hj; decide
      | j + 2, hj => simp at hj)
    refine this.mono ?_
    rintro e w' ⟨rfl, rfl⟩
    exact ⟨_, rfl, by simp only [sgn, h, if_true], ((Below.refl _ _).alloc (Nat.le_refl _) _).alloc (by simp) _⟩
  · rw [show sgn s = sgF s s.size 0 by simp [sgn, h]]
    exact indexAny_short s (by omega) w

theorem containsAny_any (s : ByteArray) (hs : s.size ≤ 65535) (w : World) : Calls Tryz.prog 39 #[.string s, .string ⟨#[43, 35]⟩] w fun e w' => e = .returned (.bool (sgn s)) ∧ Below w.heap.size w w' := by
  go_enter Tryz.func39, Tryz.ntmps39
  go_wp2_with (go_at_call 60; refine (indexAny_any s hs _).mono ?_; rintro e w1 ⟨x, rfl, hx, hb⟩; have HX : Hid (decide (0 ≤ x) = sgn s) := hx; have B1 : Hid (Below w.heap.size w w1) := hb; clear hx hb)
  go_ret
  exact ⟨by rw [← HX.out]; rfl, B1.out⟩

/-- What is told of a text that must not be empty. -/
def ct (s : ByteArray) : Int := if s.size = 0 then 50 else if txt s then 0 else 51
theorem checkText_any (s : ByteArray) (w : World) : Calls Tryz.prog 38 #[.string s] w fun e w' => e = .returned (.int .i64 (ct s)) ∧ Below w.heap.size w w' := by
  by_cases h0 : s.size = 0
  · have he : s.toList.isEmpty = true := by
      have h := isEmpty_size s
      cases hx : s.toList.isEmpty with
      | true => rfl
      | false =>
        rw [hx, h0] at h
        cases h
    rw [show ct s = 50 by simp [ct, h0]]
    go_enter Tryz.func38, Tryz.ntmps38
    go_wp2
    go_ret
    exact ⟨rfl, Below.refl _ _⟩
  · have he : s.toList.isEmpty = false := by
      have h := isEmpty_size s
      cases hx : s.toList.isEmpty with
      | false => rfl
      | true =>
        rw [hx] at h
        have hz : (s.size != 0) = true := by simp [h0]
        rw [hz] at h
        cases h
    cases ht : txt s with
    | true =>
      have hc : ((chk s).2 : Int) = 0 := by have := ht; unfold txt at this; simpa using this
      rw [show ct s = 0 by simp [ct, h0, ht]]
      clear ht h0
      go_enter Tryz.func38, Tryz.ntmps38
      go_wp2_with (go_at_call 59; refine (chk_any s _).mono ?_; rintro e w1 ⟨rfl, hb, _⟩; have B1 : Hid (Below w.heap.size w w1) := hb; clear hb; rw [hc])
      go_ret
      exact ⟨rfl, B1.out⟩
    | false =>
      have hc : (((chk s).2 : Int) != 0) = true := by have := ht; unfold txt at this; simpa using this
      rw [show ct s = 51 by simp [ct, h0, ht]]
      clear ht h0
      go_enter Tryz.func38, Tryz.ntmps38
      go_wp2_with (go_at_call 59; refine (chk_any s _).mono ?_; rintro e w1 ⟨rfl, hb, _⟩; have B1 : Hid (Below w.heap.size w w1) := hb; clear hb)
      go_ret
      exact ⟨rfl, B1.out⟩
/-- Is a text a topic? -/
def top (s : ByteArray) : Bool := !decide (s.size = 0) && txt s && !sgn s
theorem topicCheck_any (s : ByteArray) (w : World) : Calls Tryz.prog 20 #[.string s] w fun e w' => ∃ x : Int, e = .returned (.int .i64 x) ∧ (x != 0) = (!top s) ∧ Below w.heap.size w w' := by
  by_cases hc : ct s = 0
  · have ht : ¬ s.size = 0 ∧ txt s = true := by
      unfold ct at hc
      by_cases h0 : s.size = 0
      · simp [h0] at hc
      · refine ⟨h0, ?_⟩
        cases h : txt s <;> simp [h0, h] at hc ⊢
    have hs := txt_size ht.2
    have htop : top s = !sgn s := by simp [top, ht.1, ht.2]
    cases hg : sgn s with
    | true =>
      have HT : Hid (top s = false) := by show top s = false; rw [htop, hg]; rfl
      clear ht htop
      go_enter Tryz.func20, Tryz.ntmps20
      go_wp2_with (go_at_call 38; refine (checkText_any s _).mono ?_; rintro e w1 ⟨rfl, hb⟩; have B1 : Hid (Below w.heap.size w w1) := hb; clear hb; rw [hc])
      go_must (go_at_call 39)
      refine (containsAny_any s hs _).mono ?_
      rintro e w2 ⟨rfl, hb⟩
      have B2 : Hid (Below w.heap.size w w2) := B1.out.trans (hb.mono B1.out.size)
      clear hb
      rw [hg]
      go_wp2
      go_ret
      exact ⟨_, rfl, by rw [HT.out]; rfl, B2.out⟩
    | false =>
      have HT : Hid (top s = true) := by show top s = true; rw [htop, hg]; rfl
      clear ht htop
      go_enter Tryz.func20, Tryz.ntmps20
      go_wp2_with (go_at_call 38; refine (checkText_any s _).mono ?_; rintro e w1 ⟨rfl, hb⟩; have B1 : Hid (Below w.heap.size w w1) := hb; clear hb; rw [hc])
      go_must (go_at_call 39)
      refine (containsAny_any s hs _).mono ?_
      rintro e w2 ⟨rfl, hb⟩
      have B2 : Hid (Below w.heap.size w w2) := B1.out.trans (hb.mono B1.out.size)
      clear hb
      rw [hg]
      go_wp2
      go_ret
      exact ⟨_, rfl, by rw [HT.out]; rfl, B2.out⟩
  · have HT : Hid (top s = false) := by
      show top s = false
      unfold ct at hc
      by_cases h0 : s.size = 0
      · simp [top, h0]
      · cases h : txt s <;> simp [h0, h, top] at hc ⊢
    have hc' : (ct s != 0) = true := by simpa using hc
    have HC : Hid ((ct s != 0) = true) := hc'
    go_enter Tryz.func20, Tryz.ntmps20
    go_wp2_with (go_at_call 38; refine (checkText_any s _).mono ?_; rintro e w1 ⟨rfl, hb⟩; have B1 : Hid (Below w.heap.size w w1) := hb; clear hb)
    go_ret
    exact ⟨_, rfl, by rw [HT.out]; exact HC.out, B1.out⟩
end Go.Proofs.YtipagdhoeocjeaaGreat
namespace Go.Proofs.YtipagdhoeocjeaaGreat
open Go Go.RowKit
set_option linter.unusedSimpArgs false
set_option linter.unusedVariables false

/-- What topic.Check and topic.CheckFilter tell. -/
def tcode (s : ByteArray) : Int := if ct s = 0 then (if sgn s then 52 else 0) else ct s
def topb (s : ByteArray) : Bool := tcode s == 0
theorem ct_zero {s : ByteArray} (hc : ct s = 0) : s.size ≤ 65535 := by
  unfold ct at hc
  by_cases h0 : s.size = 0
  · omega
  · cases h : txt s with
    | true => exact txt_size h
    | false => simp [h0, h] at hc
theorem tcheck_any (s : ByteArray) (w : World) : Calls Tryz.prog 20 #[.string s] w fun e w' => e = .returned (.int .i64 (tcode s)) ∧ Below w.heap.size w w' := by
  by_cases hc : ct s = 0
  · have hs := ct_zero hc
    cases hg : sgn s with
    | true =>
      rw [show tcode s = 52 by simp [tcode, hc, hg]]
      go_enter Tryz.func20, Tryz.ntmps20
      go_wp2_with (go_at_call 38; refine (checkText_any s _).mono ?_; rintro e w1 ⟨rfl, hb⟩; have B1 : Hid (Below w.heap.size w w1) := hb; clear hb; rw [hc])
      go_must (go_at_call 39)
      refine (containsAny_any s hs _).mono ?_
      rintro e w2 ⟨rfl, hb⟩
      have B2 : Hid (Below w.heap.size w w2) := B1.out.trans (hb.mono B1.out.size)
      clear hb
      rw [hg]
      go_wp2
      go_ret
      exact ⟨rfl, B2.out⟩
    | false =>
      rw [show tcode s = 0 by simp [tcode, hc, hg]]
      go_enter Tryz.func20, Tryz.ntmps20
      go_wp2_with (go_at_call 38; refine (checkText_any s _).mono ?_; rintro e w1 ⟨rfl, hb⟩; have B1 : Hid (Below w.heap.size w w1) := hb; clear hb; rw [hc])
      go_must (go_at_call 39)
      refine (containsAny_any s hs _).mono ?_
      rintro e w2 ⟨rfl, hb⟩
      have B2 : Hid (Below w.heap.size w w2) := B1.out.trans (hb.mono B1.out.size)
      clear hb
      rw [hg]
      go_wp2
      go_ret
      exact ⟨rfl, B2.out⟩
  · have hc' : (ct s != 0) = true := by simpa using hc
    rw [show tcode s = ct s by simp [tcode, hc]]
    go_enter Tryz.func20, Tryz.ntmps20
    go_wp2_with (go_at_call 38; refine (checkText_any s _).mono ?_; rintro e w1 ⟨rfl, hb⟩; have B1 : Hid (Below w.heap.size w w1) := hb; clear hb)
    go_ret
    exact ⟨rfl, B1.out⟩
end Go.Proofs.YtipagdhoeocjeaaGreat
namespace Go.Proofs.YtipagdhoeocjeaaGreat
open Go Go.RowKit
set_option linter.unusedSimpArgs false
set_option linter.unusedVariables false

/-- Does a sign stand among so many first bytes? -/
def hsN (s : ByteArray) : Nat → Bool
  | 0 => false
  | n + 1 => hsN s n || (atB s n == 43) || (atB s n == 35)
def hasS (s : ByteArray) : Bool := hsN s s.size
theorem hsN_iff (s : ByteArray) (n : Nat) : hsN s n = true ↔ ∃ i, i < n ∧ (atB s i = 43 ∨ atB s i = 35) := by
  induction n with
  | zero => simp [hsN]
  | succ n ih =>
    simp only [hsN, Bool.or_eq_true, beq_iff_eq, ih]
    constructor
    · rintro ((⟨i, h1, h2⟩ | h) | h)
      · exact ⟨i, by omega, h2⟩
      · exact ⟨n, by omega, .inl h⟩
      · exact ⟨n, by omega, .inr h⟩
    · rintro ⟨i, h1, h2⟩
      by_cases e : i = n
      · subst e
        rcases h2 with h2 | h2
        · exact .inl (.inr h2)
        · exact .inr h2
      · exact .inl (.inl ⟨i, by omega, h2⟩)

theorem dec_sg (c d e f : Nat) : 1 ≤ (dec c d e f).2 ∧ (dec c d e f).2 ≤ 4 ∧ (((dec c d e f).1 = 43 ∨ (dec c d e f).1 = 35) ↔ (c = 43 ∨ c = 35)) ∧ (2 ≤ (dec c d e f).2 → 128 ≤ d) ∧ (3 ≤ (dec c d e f).2 → 128 ≤ e) ∧ (4 ≤ (dec c d e f).2 → 128 ≤ f) := by
  unfold dec
  by_cases k1 : c < 0x80
  · rw [if_pos k1]; simp
  rw [if_neg k1]
  by_cases k2 : c / 32 = 6 ∧ d / 64 = 2
  · rw [if_pos k2]
    split
    · simp only; omega
    · simp only; omega
  rw [if_neg k2]
  by_cases k3 : c / 16 = 14 ∧ d / 64 = 2 ∧ e / 64 = 2
  · rw [if_pos k3]
    split
    · simp only; omega
    · simp only; omega
  rw [if_neg k3]
  by_cases k4 : c / 8 = 30 ∧ d / 64 = 2 ∧ e / 64 = 2 ∧ f / 64 = 2
  · rw [if_pos k4]
    split
    · simp only; omega
    · simp only; omega
  rw [if_neg k4]
  simp only; omega

theorem sgF_iff (s : ByteArray) : ∀ (b k : Nat), s.size ≤ k + b → (sgF s b k = true ↔ ∃ i, k ≤ i ∧ i < s.size ∧ (atB s i = 43 ∨ atB s i = 35))
  | 0, k, h => by
    simp only [sgF, Bool.false_eq_true, false_iff]
    rintro ⟨i, h1, h2, _⟩
    omega
  | b + 1, k, h => by
    by_cases hk : k < s.size
    · have hd := dec_sg (atB s k) (atB s (k + 1)) (atB s (k + 2)) (atB s (k + 3))
      rw [← decode_dec] at hd
      obtain ⟨n1, n4, h1, h2, h3, h4⟩ := hd
      simp only [sgF, hk, if_true]
      by_cases hr : (Utf8.decode s k).1 = 43 ∨ (Utf8.decode s k).1 = 35
      · rw [if_pos hr]
        simp only [true_iff]
        exact ⟨k, Nat.le_refl _, hk, h1.1 hr⟩
      · rw [if_neg hr, sgF_iff s b _ (by omega)]
        constructor
        · rintro ⟨i, g1, g2, g3⟩
          exact ⟨i, by omega, g2, g3⟩
        · rintro ⟨i, g1, g2, g3⟩
          refine ⟨i, ?_, g2, g3⟩
          apply Classical.byContradiction
          intro hn
          have hc : i = k ∨ i = k + 1 ∨ i = k + 2 ∨ i = k + 3 := by omega
          rcases hc with e | e | e | e
          · subst e; exact hr (h1.2 g3)
          · subst e; have := h2 (by omega); omega
          · subst e; have := h3 (by omega); omega
          · subst e; have := h4 (by omega); omega
    · simp only [sgF, hk, if_false, Bool.false_eq_true, false_iff]
      rintro ⟨i, g1, g2, _⟩
      omega

theorem indexAny_iff (l : List UInt8) : (0 ≤ Lib.indexAny l [43, 35]) ↔ ∃ x ∈ l, x = 43 ∨ x = 35 := by
  induction l with
  | nil => simp [Lib.indexAny]
  | cons a l ih =>
    have hg := Lib.indexAny_ge [43, 35] l
    unfold Lib.indexAny
    by_cases ha : a = 43 ∨ a = 35
    · have : ([43, 35] : List UInt8).contains a = true := by rcases ha with rfl | rfl <;> decide
      rw [if_pos this]
      simp only [Int.le_refl, true_iff]
      exact ⟨a, by simp, ha⟩
    · have : ([43, 35] : List UInt8).contains a = false := by simp; exact ⟨fun h => ha (.inl h), fun h => ha (.inr h)⟩
      rw [if_neg (by rw [this]; decide)]
      have e : (∃ x ∈ a :: l, x = 43 ∨ x = 35) ↔ ∃ x ∈ l, x = 43 ∨ x = 35 := by
        constructor
        · rintro ⟨x, hx, h⟩
          rcases List.mem_cons.1 hx with rfl | hx
          · exact absurd h ha
          · exact ⟨x, hx, h⟩
        · rintro ⟨x, hx, h⟩
          exact ⟨x, by simp [hx], h⟩
      rw [e, ← ih]
      split
      · rename_i h; simp at h; omega
      · rename_i h; simp at h; omega

theorem mem_atB (s : ByteArray) (v : UInt8) : v ∈ s.data.toList ↔ ∃ i, i < s.size ∧ atB s i = v.toNat := by
  constructor
  · intro h
    obtain ⟨i, hi, e⟩ := List.mem_iff_getElem.1 h
    have hs : i < s.size := by rw [Array.length_toList] at hi; exact hi
    refine ⟨i, hs, ?_⟩
    rw [atB_list, List.getElem?_eq_getElem hi, Option.getD_some, e]
  · rintro ⟨i, hi, e⟩
    have hi' : i < s.data.toList.length := by rw [Array.length_toList]; exact hi
    rw [atB_list, List.getElem?_eq_getElem hi', Option.getD_some] at e
    have : s.data.toList[i] = v := UInt8.toNat_inj.1 e
    rw [← this]
    exact List.getElem_mem _

theorem sgn_has (s : ByteArray) : sgn s = hasS s := by
  refine Bool.eq_iff_iff.2 ?_
  unfold hasS
  rw [hsN_iff]
  unfold sgn
  split
  · rw [decide_eq_true_eq, indexAny_iff]
    constructor
    · rintro ⟨x, hx, h⟩
      obtain ⟨i, h1, h2⟩ := (mem_atB s x).1 hx
      refine ⟨i, h1, ?_⟩
      rcases h with rfl | rfl
      · exact .inl h2
      · exact .inr h2
    · rintro ⟨i, h1, h2 | h2⟩
      · exact ⟨43, (mem_atB s 43).2 ⟨i, h1, h2⟩, .inl rfl⟩
      · exact ⟨35, (mem_atB s 35).2 ⟨i, h1, h2⟩, .inr rfl⟩
  · rw [sgF_iff s s.size 0 (by omega)]
    constructor
    · rintro ⟨i, _, h1, h2⟩; exact ⟨i, h1, h2⟩
    · rintro ⟨i, h1, h2⟩; exact ⟨i, Nat.zero_le _, h1, h2⟩


end Go.Proofs.YtipagdhoeocjeaaGreat
namespace Go.Proofs.YtipagdhoeocjeaaGreat
open Go Go.RowKit
set_option linter.unusedSimpArgs false
set_option linter.unusedVariables false

theorem countB (s : ByteArray) (c : UInt8) : Lib.countByte s.data.toList c ≤ s.size := by
  unfold Lib.countByte
  have := List.count_le_length (a := c) (l := s.data.toList)
  simpa using this

theorem dec_sl (c d e f : Nat) : ((dec c d e f).1 = 47 ↔ c = 47) ∧ (c = 47 → (dec c d e f).2 = 1) := by
  unfold dec
  by_cases k1 : c < 0x80
  · rw [if_pos k1]; simp
  rw [if_neg k1]
  by_cases k2 : c / 32 = 6 ∧ d / 64 = 2
  · rw [if_pos k2]
    split
    · simp only; omega
    · simp only; omega
  rw [if_neg k2]
  by_cases k3 : c / 16 = 14 ∧ d / 64 = 2 ∧ e / 64 = 2
  · rw [if_pos k3]
    split
    · simp only; omega
    · simp only; omega
  rw [if_neg k3]
  by_cases k4 : c / 8 = 30 ∧ d / 64 = 2 ∧ e / 64 = 2 ∧ f / 64 = 2
  · rw [if_pos k4]
    split
    · simp only; omega
    · simp only; omega
  rw [if_neg k4]
  simp only; omega
theorem lvs_skip (s : ByteArray) (f : Nat) : ∀ (n b k : Nat), k + n ≤ s.size → s.size ≤ k + b → (∀ j, k ≤ j → j < k + n → ¬ atB s j = 47) → ∃ b', lvs s b f k = lvs s b' f (k + n) ∧ s.size ≤ k + n + b'
  | 0, b, k, _, hb, _ => ⟨b, rfl, hb⟩
  | n + 1, b, k, hk, hb, h => by
    obtain ⟨b1, e1, e2⟩ := lvs_on s b f k (by omega) hb (h k (Nat.le_refl _) (by omega))
    obtain ⟨b2, e3, e4⟩ := lvs_skip s f n b1 (k + 1) (by omega) e2 (fun j h1 h2 => h j (by omega) (by omega))
    exact ⟨b2, by rw [e1, e3, show k + 1 + n = k + (n + 1) by omega], by omega⟩
/-- A rune of a text, seen from its bytes. -/
theorem rune_at (s : ByteArray) (k r n : Nat) (hk : k < s.size) (hd : Utf8.decode s k = (r, n)) : 1 ≤ n ∧ k + n ≤ s.size ∧ (r = 47 ↔ atB s k = 47) ∧ (r = 47 → n = 1) ∧ (¬ r = 47 → ∀ j, k ≤ j → j < k + n → ¬ atB s j = 47) := by
  have h1 := dec_sl (atB s k) (atB s (k + 1)) (atB s (k + 2)) (atB s (k + 3))
  have h2 := dec_sg (atB s k) (atB s (k + 1)) (atB s (k + 2)) (atB s (k + 3))
  rw [← decode_dec, hd] at h1 h2
  simp only at h1 h2
  obtain ⟨n1, n4, _, g2, g3, g4⟩ := h2
  have a1 := lt_of_atB s (k + 1)
  have a2 := lt_of_atB s (k + 2)
  have a3 := lt_of_atB s (k + 3)
  refine ⟨n1, ?_, h1.1, fun h => h1.2 (h1.1.1 h), ?_⟩
  · have hc : n = 1 ∨ n = 2 ∨ n = 3 ∨ n = 4 := by omega
    rcases hc with rfl | rfl | rfl | rfl
    · omega
    · have := a1 (by have := g2 (by omega); omega); omega
    · have := a2 (by have := g3 (by omega); omega); omega
    · have := a3 (by have := g4 (by omega); omega); omega
  · intro hr j j1 j2 hj
    have hc : j = k ∨ j = k + 1 ∨ j = k + 2 ∨ j = k + 3 := by omega
    rcases hc with rfl | rfl | rfl | rfl
    · exact hr (h1.1.2 hj)
    · have := g2 (by omega); omega
    · have := g3 (by omega); omega
    · have := g4 (by omega); omega
theorem iter_grown {w w' : World} {g : Nat} {s : ByteArray} {k : Nat} {row : Option Nat} (h : w.heap[g]? = some (.stringIter s k)) (hg : w.grownBy w' row) (hne : some g ≠ row) : w'.heap[g]? = some (.stringIter s k) := by
  rw [hg.block g (block_lt h) hne]; exact h
theorem row_iter {w : World} {base : Nat} {v : Value} {n : Nat} {xs : List Value} {g : Nat} {s : ByteArray} {k : Nat} (h : w.ownsRow base 9 1 v n xs) (hi : w.heap[g]? = some (.stringIter s k)) : some g ≠ v.ownBlock := by
  rcases h.2 with ⟨rfl, _⟩ | ⟨q, cap, cur, rfl, _, hq, _⟩
  · intro e; cases e
  · intro e
    have e' : g = q := Option.some.inj e
    subst e'
    rw [hi] at hq; cases hq
theorem row_setIt {w : World} {base : Nat} {v : Value} {n : Nat} {xs : List Value} {g : Nat} {s : ByteArray} {k k' : Nat} (h : w.ownsRow base 9 1 v n xs) (hi : w.heap[g]? = some (.stringIter s k)) : (setIt w g s k').ownsRow base 9 1 v n xs := by
  refine ⟨h.1, ?_⟩
  rcases h.2 with h2 | ⟨q, cap, cur, rfl, hb, hq, h3⟩
  · exact .inl h2
  · refine .inr ⟨q, cap, cur, rfl, hb, ?_, h3⟩
    have hne : ¬ g = q := by
      rintro rfl; rw [hi] at hq; cases hq
    show (w.heap.setIfInBounds g (.stringIter s k'))[q]? = _
    rw [Array.getElem?_setIfInBounds, if_neg hne]; exact hq

set_option maxRecDepth 100000 in
set_option maxHeartbeats 2000000 in
theorem tlevels_any (s : ByteArray) (hs : s.size ≤ 1000000) (w : World) : Calls Tryz.prog 28 #[.string s] w fun e w' => ∃ v, e = .returned v ∧ w'.ownsRow w.heap.size 9 1 v (levels s).length ((levels s).map Value.string) ∧ Below w.heap.size w w' := by
  obtain ⟨i0, hi, hz0, hz1, hz2⟩ : ∃ i0, Tryz.prog.info? 9 = some i0 ∧ i0.zero = some (.string ⟨#[]⟩) ∧ i0.size = 1 ∧ i0.bytes = 16 := ⟨_, rfl, rfl, rfl, rfl⟩
  have HS : Hid (s.size ≤ 1000000) := hs
  have HT : Hid (levels s = [] ++ lvs s s.size 0 0) := rfl
  obtain ⟨n, hn, hn2⟩ : ∃ n : Nat, Lib.countByte s.data.toList 47 = n ∧ n ≤ 1000000 := ⟨_, rfl, Nat.le_trans (countB s 47) hs⟩
  have hw : IntKind.i64.wrap ((n : Int) + 1) = (n : Int) + 1 := by rw [IntKind.wrap_i64]; omega
  obtain ⟨wm, hmk, hom, hgm⟩ := run_make_own (P := Tryz.prog) w w.heap.size 45 9 i0 (.string ⟨#[]⟩) 1 Tryz.underlying45 hi hz0 hz1 .i64 .i64 (n + 1) (by rw [hz2]; omega) (by unfold maxLen; omega) (Nat.le_refl _)
  have hmk' : (Instr.makeSlice 45 (.int .i64 0) (.int .i64 ((n : Int) + 1))).run Tryz.prog w = .ok (.slice (some ⟨w.heap.size, 0, none⟩) 0 (n + 1)) wm := hmk
  have bm : Below w.heap.size w wm := ⟨hgm.os, hgm.tape, hgm.output, hgm.size, fun k hk => hgm.block k hk (fun e => by cases e)⟩
  have I0 : Hid ((wm.iter s 0).heap[wm.heap.size]? = some (.stringIter s 0)) := World.iter_heap wm s 0
  have B0 : Hid (Below w.heap.size w (wm.iter s 0)) := bm.trans ((below_iter wm s 0).mono bm.size)
  have O0 : Hid ((wm.iter s 0).ownsRow w.heap.size 9 1 (.slice (some ⟨w.heap.size, 0, none⟩) 0 (n + 1)) 0 []) := hom.alloc _
  have HL0 : Hid (w.heap.size ≤ wm.heap.size) := bm.size
  clear hs hn2 hmk hom hgm bm
  go_enter Tryz.func28, Tryz.ntmps28
  go_wp2_with (go_at_call 51; refine (Tryz.strings_Count_one s 47 _).mono ?_; rintro e w' ⟨rfl, hee⟩; obtain rfl := hee.symm; clear hee; rw [hn])
  clear hmk'
  go_loopg [3, 4] s.size (fun g s3 s4 wx => ∃ (f i b : Nat) (xs : List ByteArray), f ≤ i ∧ i ≤ s.size ∧ g = s.size - i ∧ s4 = .int .i64 f ∧ Hid (wx.heap[wm.heap.size]? = some (.stringIter s i)) ∧ Hid (wx.ownsRow w.heap.size 9 1 s3 xs.length (xs.map Value.string)) ∧ Hid (Below w.heap.size w wx) ∧ Hid (levels s = xs ++ lvs s b f i) ∧ Hid (s.size ≤ i + b) ∧ Hid (xs.length ≤ i))
  case atStart => exact ⟨0, 0, s.size, [], Nat.le_refl _, Nat.zero_le _, rfl, rfl, I0, O0, B0, HT, by show _ ≤ _; omega, Nat.le_refl _⟩
  case round =>
    obtain ⟨f, i, b, xs, hfi, hisz, rfl, rfl, HI, HO, HB, HL, HF, HN⟩ := hrel
    by_cases hlt : i < s.size
    · obtain ⟨r, m, hd⟩ : ∃ r m, Utf8.decode s i = (r, m) := ⟨_, _, rfl⟩
      obtain ⟨m1, m2, m3, m4, m5⟩ := rune_at s i r m hlt hd
      have hnx := fun ty => next_at HI.out ty hlt r m hd
      have hit2 := setIt_heap (k' := i + m) HI.out
      have B2 := setIt_below HB.out wm.heap.size HL0.out s (i + m)
      have O2 := row_setIt (k' := i + m) HO.out HI.out
      generalize setIt wr wm.heap.size s (i + m) = w2 at *
      have HB2 : Hid (Below w.heap.size w w2) := B2
      have HI2 : Hid (w2.heap[wm.heap.size]? = some (.stringIter s (i + m))) := hit2
      have HO2 : Hid (w2.ownsRow w.heap.size 9 1 _ xs.length (xs.map Value.string)) := O2
      clear B2 hit2 O2 hd HI HO HB
      have hw1 : IntKind.i64.wrap ((i : Int) + 1) = (i : Int) + 1 := by rw [IntKind.wrap_i64]; have := HS.out; omega
      by_cases h47 : r = 47
      · obtain rfl := m4 h47
        have HC : Hid (atB s i = 47) := m3.1 h47
        subst h47
        have hfi' : (f : Int) ≤ i := by omega
        have hisz' : (i : Int) ≤ s.size := by omega
        clear m1 m2 m3 m4 m5
        go_wp2_with (at_builtin; refine wpList_append_own _ rfl (.tmp 19) (.tmp 24) 45 rfl w.heap.size 9 i0 (.string ⟨#[]⟩) 1 16 Tryz.underlying45 hi hz0 hz1 hz2 rfl (by decide) _ _ _ rfl (HO2.out.alloc _) ⟨_, 0, none⟩ 1 1 [.string (s.extract f i)] rfl rfl ?d1 ?d2 ?d3 ?d4 ?d5 ?_)
        case d1 => exact cell_one_new _ _ _
        case d2 => intro u hu; simp at hu; subst hu; rfl
        case d3 => have := HN.out; have := HS.out; unfold maxLen; omega
        case d4 => have := HN.out; have := HS.out; omega
        case d5 => have := HB2.out.size; simp; omega
        intro v2 w3 hown2 hgrow2 hnil2
        have hb2 := (HB2.out.alloc HB2.out.size _).grown hgrow2 (by have := HB2.out.size; simp; omega) (by intro q hq; exact (HO2.out.lt _ hq).1)
        have hi3 := iter_grown (g := wm.heap.size) (k := i + 1) (s := s) (by rw [heap_alloc_old _ _ (block_lt HI2.out)]; exact HI2.out) hgrow2 (row_iter HO2.out HI2.out)
        obtain ⟨b', e1, e2⟩ := lvs_cut s b f i hlt HF.out HC.out
        have HI3 : Hid (w3.heap[wm.heap.size]? = some (.stringIter s (i + 1))) := hi3
        have HO3 : Hid (w3.ownsRow w.heap.size 9 1 v2 (xs ++ [s.extract f i]).length ((xs ++ [s.extract f i]).map Value.string)) := by show World.ownsRow _ _ _ _ _ _ _; simpa using hown2
        have HB3 : Hid (Below w.heap.size w w3) := hb2
        have HL3 : Hid (levels s = (xs ++ [s.extract f i]) ++ lvs s b' (i + 1) (i + 1)) := by show _ = _; rw [HL.out, e1]; simp
        have HF3 : Hid (s.size ≤ i + 1 + b') := e2
        have HN3 : Hid ((xs ++ [s.extract f i]).length ≤ i + 1) := by show _ ≤ _; have := HN.out; simp; omega
        clear hown2 hgrow2 hnil2 hb2 e1 e2 hi3
        go_wp2
        go_roundg (s.size - (i + 1))
        case measure => omega
        case rel => exact ⟨i + 1, i + 1, b', xs ++ [s.extract f i], Nat.le_refl _, by omega, by omega, by first | rfl | simp, HI3, HO3, HB3, HL3, HF3, HN3⟩
      · have h47' : ((r : Int) == 47) = false := by rw [beq_eq_false_iff_ne]; omega
        obtain ⟨b', e1, e2⟩ := lvs_skip s f m b i m2 HF.out (m5 h47)
        have HL3 : Hid (levels s = xs ++ lvs s b' f (i + m)) := by show _ = _; rw [HL.out, e1]
        have HF3 : Hid (s.size ≤ i + m + b') := e2
        have HN3 : Hid (xs.length ≤ i + m) := Nat.le_trans HN.out (by omega)
        have HM : Hid (1 ≤ m ∧ i + m ≤ s.size) := ⟨m1, m2⟩
        clear h47 e1 e2 m1 m2 m3 m4 m5
        go_wp2
        go_roundg (s.size - (i + m))
        case measure => have := HM.out; omega
        case rel => exact ⟨f, i + m, b', xs, by omega, HM.out.2, by omega, rfl, HI2, HO2, HB2, HL3, HF3, HN3⟩
    · obtain rfl : i = s.size := by omega
      have hnx := fun ty => next_end HI.out ty hlt
      have hfi' : (f : Int) ≤ s.size := by omega
      have HE : Hid (levels s = xs ++ [s.extract f s.size]) := by show _ = _; rw [HL.out, lvs_end s b f _ hlt]
      go_wp2_with (at_builtin; refine wpList_append_own _ rfl (.tmp 28) (.tmp 32) 45 rfl w.heap.size 9 i0 (.string ⟨#[]⟩) 1 16 Tryz.underlying45 hi hz0 hz1 hz2 rfl (by decide) _ _ _ rfl (HO.out.alloc _) ⟨_, 0, none⟩ 1 1 [.string (s.extract f s.size)] rfl rfl (cell_one_new _ _ _) ?x2 ?x3 ?x4 ?x5 ?_)
      any_goals first | rfl | (intro u hu; simp at hu; subst hu; rfl; done) | (have := HN.out; have := HS.out; unfold maxLen; omega; done) | (have := HN.out; have := HS.out; omega; done) | (have := HB.out.size; simp; omega; done)
      intro v2 w2 hown2 hgrow2 hnil2
      have hb2 := (HB.out.alloc HB.out.size _).grown hgrow2 (by have := HB.out.size; simp; omega) (by intro q hq; exact (HO.out.lt _ hq).1)
      have HO2 : Hid (w2.ownsRow w.heap.size 9 1 v2 (levels s).length ((levels s).map Value.string)) := by show World.ownsRow _ _ _ _ _ _ _; rw [HE.out]; simpa using hown2
      have HB2 : Hid (Below w.heap.size w w2) := hb2
      clear hown2 hgrow2 hnil2 hb2
      go_wp2
      go_ret
      exact ⟨v2, rfl, HO2.out, HB2.out⟩
end Go.Proofs.YtipagdhoeocjeaaGreat
namespace Go.Proofs.YtipagdhoeocjeaaGreat
open Go Go.RowKit
set_option linter.unusedSimpArgs false
set_option linter.unusedVariables false

theorem lvs_size (s : ByteArray) : ∀ (b f i : Nat) (t : ByteArray), t ∈ lvs s b f i → t.size ≤ s.size
  | 0, f, i, t, h => by
    simp only [lvs, List.mem_singleton] at h
    subst h
    simp [ByteArray.size_extract]
  | b + 1, f, i, t, h => by
    unfold lvs at h
    split at h
    · rename_i hi
      split at h
      · rcases List.mem_cons.1 h with h | h
        · subst h; simp [ByteArray.size_extract]; omega
        · exact lvs_size s b _ _ t h
      · exact lvs_size s b _ _ t h
    · simp only [List.mem_singleton] at h
      subst h
      simp [ByteArray.size_extract]
theorem lvs_some (s : ByteArray) : ∀ (b f i : Nat), 1 ≤ (lvs s b f i).length
  | 0, f, i => by simp [lvs]
  | b + 1, f, i => by
    unfold lvs
    split
    · split
      · simp
      · exact lvs_some s b _ _
    · simp
theorem lvs_most (s : ByteArray) : ∀ (b f i : Nat), (lvs s b f i).length ≤ b + 1
  | 0, f, i => by simp [lvs]
  | b + 1, f, i => by
    unfold lvs
    split
    · split
      · have := lvs_most s b (i + 1) (i + 1); simp; omega
      · have := lvs_most s b f (i + 1); omega
    · simp
theorem hash_list : (⟨#[35]⟩ : ByteArray).toList = [35] := by rw [Lib.toList_data]
def isHash (t : ByteArray) : Bool := t.toList == (⟨#[35]⟩ : ByteArray).toList
/-- Does a sign stand in a level where none may? -/
def lvX (t : ByteArray) (more : Bool) : Bool := (hasS t && decide (1 < t.size)) || (isHash t && more)
def lvAny : List ByteArray → Bool
  | [] => false
  | t :: r => lvX t (!r.isEmpty) || lvAny r
def rfc (s : ByteArray) : Int := if ct s = 0 then (if lvAny (levels s) then 52 else 0) else ct s


end Go.Proofs.YtipagdhoeocjeaaGreat
namespace Go.Proofs.YtipagdhoeocjeaaGreat
open Go Go.RowKit
set_option linter.unusedSimpArgs false
set_option linter.unusedVariables false

theorem dec_low (v c d e f : Nat) (hv : v < 128) : ((dec c d e f).1 = v ↔ c = v) := by
  unfold dec
  by_cases k1 : c < 0x80
  · rw [if_pos k1]
  rw [if_neg k1]
  by_cases k2 : c / 32 = 6 ∧ d / 64 = 2
  · rw [if_pos k2]
    split
    · simp only; omega
    · simp only; omega
  rw [if_neg k2]
  by_cases k3 : c / 16 = 14 ∧ d / 64 = 2 ∧ e / 64 = 2
  · rw [if_pos k3]
    split
    · simp only; omega
    · simp only; omega
  rw [if_neg k3]
  by_cases k4 : c / 8 = 30 ∧ d / 64 = 2 ∧ e / 64 = 2 ∧ f / 64 = 2
  · rw [if_pos k4]
    split
    · simp only; omega
    · simp only; omega
  rw [if_neg k4]
  simp only; omega
def NoS (s : ByteArray) (j : Nat) : Prop := ¬ atB s j = 43 ∧ ¬ atB s j = 35
theorem rune_sign (s : ByteArray) (k r n : Nat) (hk : k < s.size) (hd : Utf8.decode s k = (r, n)) : 1 ≤ n ∧ k + n ≤ s.size ∧ (r = 43 ↔ atB s k = 43) ∧ (r = 35 ↔ atB s k = 35) ∧ (¬ r = 43 → ¬ r = 35 → ∀ j, k ≤ j → j < k + n → NoS s j) := by
  have h1 := dec_low 43 (atB s k) (atB s (k + 1)) (atB s (k + 2)) (atB s (k + 3)) (by decide)
  have h1' := dec_low 35 (atB s k) (atB s (k + 1)) (atB s (k + 2)) (atB s (k + 3)) (by decide)
  have h2 := dec_sg (atB s k) (atB s (k + 1)) (atB s (k + 2)) (atB s (k + 3))
  obtain ⟨g1, g5, _⟩ := rune_at s k r n hk hd
  rw [← decode_dec, hd] at h1 h2 h1'
  simp only at h1 h2 h1'
  obtain ⟨_, n4, _, g2, g3, g4⟩ := h2
  refine ⟨g1, g5, h1, h1', ?_⟩
  intro hr hr' j j1 j2
  have hc : j = k ∨ j = k + 1 ∨ j = k + 2 ∨ j = k + 3 := by omega
  rcases hc with rfl | rfl | rfl | rfl
  · exact ⟨fun h => hr (h1.2 h), fun h => hr' (h1'.2 h)⟩
  · have := g2 (by omega); exact ⟨by omega, by omega⟩
  · have := g3 (by omega); exact ⟨by omega, by omega⟩
  · have := g4 (by omega); exact ⟨by omega, by omega⟩
theorem isHash_iff (t : ByteArray) : isHash t = true ↔ unB t = [35] := by
  unfold isHash; rw [eq_one]; simp
theorem one_byte (t : ByteArray) (h : t.size = 1) : unB t = [UInt8.ofNat (atB t 0)] := by
  have hl : (unB t).length = 1 := by rw [un_size]; exact h
  match hu : unB t, hl with
  | [c], _ =>
    have := atB_un t 0
    rw [hu] at this
    simp at this
    rw [this]; simp
theorem hash_byte (t : ByteArray) (h : isHash t = true) : t.size = 1 ∧ atB t 0 = 35 := by
  have h1 := (isHash_iff t).1 h
  have h2 : (unB t).length = 1 := by rw [h1]; rfl
  refine ⟨by rw [← un_size]; exact h2, ?_⟩
  rw [atB_un, h1]; rfl
theorem lvX_none (t : ByteArray) (more : Bool) (h : ∀ j, j < t.size → NoS t j) : lvX t more = false := by
  have h1 : hasS t = false := by
    cases hh : hasS t with
    | false => rfl
    | true =>
      obtain ⟨i, hi, h2⟩ := (hsN_iff t t.size).1 hh
      have := h i hi
      rcases h2 with h2 | h2
      · exact absurd h2 this.1
      · exact absurd h2 this.2
  have h2 : isHash t = false := by
    cases hh : isHash t with
    | false => rfl
    | true =>
      obtain ⟨a, b⟩ := hash_byte t hh
      exact absurd b (h 0 (by omega)).2
  simp [lvX, h1, h2]
theorem lvX_long (t : ByteArray) (more : Bool) (k : Nat) (hk : k < t.size) (h : atB t k = 43 ∨ atB t k = 35) (h1 : 1 < t.size) : lvX t more = true := by
  have : hasS t = true := (hsN_iff t t.size).2 ⟨k, hk, h⟩
  simp [lvX, this, h1]
theorem lvX_plus (t : ByteArray) (more : Bool) (hk : 0 < t.size) (h : atB t 0 = 43) (h1 : ¬ 1 < t.size) : lvX t more = false := by
  have h2 : isHash t = false := by
    cases hh : isHash t with
    | false => rfl
    | true =>
      obtain ⟨a, b⟩ := hash_byte t hh
      omega
  simp [lvX, h1, h2]
theorem lvX_hash (t : ByteArray) (more : Bool) (hk : 0 < t.size) (h : atB t 0 = 35) (h1 : ¬ 1 < t.size) : lvX t more = more := by
  have h2 : isHash t = true := (isHash_iff t).2 (by rw [one_byte t (by omega), h]; rfl)
  simp [lvX, h1, h2]

set_option maxRecDepth 100000 in
set_option maxHeartbeats 4000000 in
theorem misplaced_any (l : List ByteArray) (v : Value) (w : World) (R : Row w v l) (hl : l.length ≤ 1000001) (hz : ∀ t ∈ l, t.size ≤ 1000000) : Calls Tryz.prog 61 #[v] w fun e w' => e = .returned (.bool (lvAny l)) ∧ Below w.heap.size w w' := by
  obtain ⟨x, hx⟩ : ∃ x, x = lvAny l := ⟨_, rfl⟩
  rw [← hx]
  have HX : Hid (x = lvAny (l.drop 0)) := hx
  obtain ⟨a, n, cap, rfl, hn, hc, hrow⟩ := R
  have HN : Hid (n = l.length ∧ n ≤ cap ∧ l.length ≤ 1000001) := ⟨hn, hc, hl⟩
  have HZ : Hid (∀ t ∈ l, t.size ≤ 1000000) := hz
  have HA : Hid (l ≠ [] → ∃ g o, a = some ⟨g, o, none⟩ ∧ g < w.heap.size ∧ ∀ k x, l[k]? = some x → w.cell? ⟨g, o + k, none⟩ = some (.string x)) := hrow
  clear hx hn hc hl hz hrow
  go_enter Tryz.func61, Tryz.ntmps61
  go_wp2_with fail
  go_step3
  go_wp2_with fail
  go_step3
  go_wp2_with fail
  go_loopg [3, 10] n (fun gg s3 s10 wx => ∃ k : Nat, k ≤ n ∧ gg = n - k ∧ s3 = .bool false ∧ s10 = .int .i64 k ∧ Hid (Below w.heap.size w wx) ∧ Hid (x = lvAny (l.drop k)))
  case atStart => exact ⟨0, Nat.zero_le _, rfl, rfl, rfl, Below.refl _ _, HX⟩
  case round =>
    obtain ⟨k, hk, rfl, rfl, rfl, B, HE⟩ := hrel
    by_cases hlt : k < n
    · have hlt' : (k : Int) < n := by omega
      obtain ⟨t, ht⟩ : ∃ t, l[k]? = some t := ⟨_, List.getElem?_eq_getElem (by have := HN.out.1; omega)⟩
      obtain ⟨g, o, rfl, hg, hcells⟩ := HA.out (fun e => by subst e; simp at ht)
      have c1 : wr.cell? ⟨g, o + k, none⟩ = some (.string t) := by rw [B.out.cell (by exact hg)]; exact hcells k t ht
      have hcap := HN.out.2.1
      have hw : IntKind.i64.wrap ((k : Int) + 1) = (k : Int) + 1 := by rw [IntKind.wrap_i64]; have := HN.out; omega
      have hw2 : IntKind.i64.wrap ((n : Int) - 1) = (n : Int) - 1 := by rw [IntKind.wrap_i64]; have := HN.out; omega
      have HS : Hid (lvAny (l.drop k) = (lvX t (decide (k + 1 < n)) || lvAny (l.drop (k + 1)))) := by
        show _ = _
        obtain ⟨hi, e⟩ := List.getElem?_eq_some_iff.1 ht
        have hnn := HN.out.1
        rw [List.drop_eq_getElem_cons hi, e]
        simp only [lvAny]
        congr 2
        by_cases hm : k + 1 < n
        · rw [decide_eq_true hm]; cases hd : List.drop (k + 1) l with
          | nil => have := congrArg List.length hd; simp at this; omega
          | cons a r => rfl
        · rw [decide_eq_false hm, List.drop_eq_nil_of_le (by omega)]; rfl
      have HBad : Hid (lvX t (decide (k + 1 < n)) = true → x = true) := fun h => by rw [HE.out, HS.out, h]; rfl
      have HOk : Hid (lvX t (decide (k + 1 < n)) = false → x = lvAny (l.drop (k + 1))) := fun h => by rw [HE.out, HS.out, h]; rfl
      have HTz : Hid (t.size ≤ 1000000) := HZ.out t (List.mem_of_getElem? ht)
      obtain ⟨w0, hw0⟩ : ∃ w0, w0 = wr := ⟨_, rfl⟩
      have BI : Hid (Below w.heap.size w (w0.iter t 0)) := by show Below _ _ _; rw [hw0]; exact B.out.trans ((below_iter wr t 0).mono B.out.size)
      have BH : Hid (w.heap.size ≤ w0.heap.size) := by show w.heap.size ≤ w0.heap.size; rw [hw0]; exact B.out.size
      have II : Hid ((w0.iter t 0).heap[w0.heap.size]? = some (.stringIter t 0)) := World.iter_heap w0 t 0
      rw [← hw0] at c1 ⊢
      clear hw0 B HS HE hcells ht hg
      have P0 : Hid ((0 < t.size → ∀ j, j < 0 → NoS t j) ∧ (¬ 0 < t.size → lvX t (decide (k + 1 < n)) = false)) := ⟨fun _ j hj => by omega, fun h => lvX_none t _ (fun j hj => by omega)⟩
      obtain ⟨more, hmore⟩ : ∃ more, more = decide (k + 1 < n) := ⟨_, rfl⟩
      rw [← hmore] at HBad HOk P0
      have hmI : decide ((k : Int) < (n : Int) - 1) = more := by rw [hmore]; exact decide_eq_decide.2 (by omega)
      clear hmore
      go_wp2_with fail
      go_loopg [3] t.size (fun g2 s3 wy => ∃ q : Nat, q ≤ t.size ∧ g2 = t.size - q ∧ s3 = .bool false ∧ Hid (Below w.heap.size w wy) ∧ Hid (wy.heap[w0.heap.size]? = some (.stringIter t q)) ∧ Hid ((q < t.size → ∀ j, j < q → NoS t j) ∧ (¬ q < t.size → lvX t more = false)))
      case atStart => exact ⟨0, Nat.zero_le _, rfl, rfl, BI, II, P0⟩
      case round =>
        obtain ⟨q, hq, rfl, rfl, B, HI, HP⟩ := hrel
        by_cases hqt : q < t.size
        · obtain ⟨r, m, hd⟩ : ∃ r m, Utf8.decode t q = (r, m) := ⟨_, _, rfl⟩
          obtain ⟨m1, m2, m3, m4, m5⟩ := rune_sign t q r m hqt hd
          have hnx := fun ty => next_at HI.out ty hqt r m hd
          have hit2 := setIt_heap (k' := q + m) HI.out
          have B2 := setIt_below B.out w0.heap.size BH.out t (q + m)
          generalize setIt wr w0.heap.size t (q + m) = w2 at *
          have HB2 : Hid (Below w.heap.size w w2) := B2
          have HI2 : Hid (w2.heap[w0.heap.size]? = some (.stringIter t (q + m))) := hit2
          clear B2 hit2 hd HI B
          by_cases h43 : r = 43
          · subst h43
            have hat := m3.1 rfl
            by_cases h1 : 1 < t.size
            · have h1' : (1 : Int) < t.size := by omega
              have HR : Hid (x = true) := HBad.out (lvX_long t _ q hqt (.inl hat) h1)
              clear m1 m2 m3 m4 m5 hat h1
              go_wp2_with fail
              try rw [Exit.noGoto_ret]
              go_ret
              exact ⟨by rw [HR.out]; rfl, HB2.out⟩
            · have h1' : ¬ (1 : Int) < t.size := by omega
              obtain rfl : q = 0 := by omega
              have HF : Hid (lvX t more = false) := lvX_plus t _ hqt hat h1
              have HM : Hid (1 ≤ m ∧ 0 + m ≤ t.size) := ⟨m1, m2⟩
              have HP2 : Hid ((0 + m < t.size → ∀ j, j < 0 + m → NoS t j) ∧ (¬ 0 + m < t.size → lvX t more = false)) := ⟨fun h => by omega, fun _ => HF.out⟩
              clear m1 m2 m3 m4 m5 hat h1
              go_wp2_with fail
              go_roundg (t.size - (0 + m))
              case measure => have := HM.out; omega
              case rel => exact ⟨0 + m, HM.out.2, rfl, rfl, HB2, HI2, HP2⟩
          have e43 : ((r : Int) == 43) = false := by rw [beq_eq_false_iff_ne]; omega
          by_cases h35 : r = 35
          · subst h35
            have hat := m4.1 rfl
            by_cases h1 : 1 < t.size
            · have h1' : (1 : Int) < t.size := by omega
              have HR : Hid (x = true) := HBad.out (lvX_long t _ q hqt (.inr hat) h1)
              clear m1 m2 m3 m4 m5 hat h1
              go_wp2_with fail
              try rw [Exit.noGoto_ret]
              go_ret
              exact ⟨by rw [HR.out]; rfl, HB2.out⟩
            · have h1' : ¬ (1 : Int) < t.size := by omega
              obtain rfl : q = 0 := by omega
              have HV : Hid (lvX t more = more) := lvX_hash t _ hqt hat h1
              cases more with
              | true =>
                have hmI' : (k : Int) < (n : Int) - 1 := of_decide_eq_true hmI
                have HR : Hid (x = true) := HBad.out HV.out
                clear m1 m2 m3 m4 m5 hat h1
                go_wp2_with fail
                try rw [Exit.noGoto_ret]
                go_ret
                exact ⟨by rw [HR.out]; rfl, HB2.out⟩
              | false =>
                have hmI' : ¬ (k : Int) < (n : Int) - 1 := of_decide_eq_false hmI
                have HM : Hid (1 ≤ m ∧ 0 + m ≤ t.size) := ⟨m1, m2⟩
                have HP2 : Hid ((0 + m < t.size → ∀ j, j < 0 + m → NoS t j) ∧ (¬ 0 + m < t.size → lvX t false = false)) := ⟨fun h => by omega, fun _ => HV.out⟩
                clear m1 m2 m3 m4 m5 hat h1
                go_wp2_with fail
                go_roundg (t.size - (0 + m))
                case measure => have := HM.out; omega
                case rel => exact ⟨0 + m, HM.out.2, rfl, rfl, HB2, HI2, HP2⟩
          have e35 : ((r : Int) == 35) = false := by rw [beq_eq_false_iff_ne]; omega
          have HM : Hid (1 ≤ m ∧ q + m ≤ t.size) := ⟨m1, m2⟩
          have hno : ∀ j, j < q + m → NoS t j := fun j hj => by
            by_cases hjq : j < q
            · exact HP.out.1 hqt j hjq
            · exact m5 h43 h35 j (by omega) hj
          have HP2 : Hid ((q + m < t.size → ∀ j, j < q + m → NoS t j) ∧ (¬ q + m < t.size → lvX t more = false)) := ⟨fun _ => hno, fun h => lvX_none t _ (fun j hj => hno j (by omega))⟩
          clear m1 m2 m3 m4 m5 hno h43 h35
          go_wp2_with fail
          go_roundg (t.size - (q + m))
          case measure => have := HM.out; omega
          case rel => exact ⟨q + m, HM.out.2, rfl, rfl, HB2, HI2, HP2⟩
        · have hnx := fun ty => next_end HI.out ty hqt
          have HE2 : Hid (x = lvAny (l.drop (k + 1))) := HOk.out (HP.out.2 hqt)
          go_wp2_with fail
          go_roundg (n - (k + 1))
          case measure => omega
          case rel => exact ⟨k + 1, by omega, by omega, rfl, by first | rfl | simp, B, HE2⟩
    · obtain rfl : k = n := by omega
      have hlt' : ¬ (k : Int) < k := by omega
      have HR : Hid (x = false) := by show _ = _; rw [HE.out, List.drop_eq_nil_of_le (by have := HN.out.1; omega)]; rfl
      go_wp2_with fail
      try rw [Exit.noGoto_ret]
      go_ret
      exact ⟨by rw [HR.out]; rfl, B.out⟩
end Go.Proofs.YtipagdhoeocjeaaGreat
