import Derived.Test.YtepjcfhbbcaldaaTa
import Derived.Test.YtepjcfhbbcaldaaRk
namespace Go.Proofs.Ytepjcfhbbcaldaa
open Go Go.RowKit
set_option linter.unusedSimpArgs false
set_option linter.unusedVariables false

/-- Where a sign stands among the two. -/
def ix (r : Nat) : Int := if r = 43 then 0 else if r = 35 then 1 else -1
theorem ix_ascii : ∀ r : Fin 128, Lib.indexByte (⟨#[43, 35]⟩ : ByteArray).data.toList ((r.val : Int)).toNat.toUInt8 = ix r.val := by decide
theorem rune_any (r : Nat) (w : World) : Calls Try.prog 87 #[.string ⟨#[43, 35]⟩, .int .i32 (r : Int)] w fun e w' => e = .returned (.int .i64 (ix r)) ∧ Below w.heap.size w w' := by
  by_cases h : r < 128
  · have := Try.strings_IndexRune_ascii ⟨#[43, 35]⟩ (r : Int) w (by omega) (by omega)
    refine this.mono ?_
    rintro e w' ⟨rfl, rfl⟩
    refine ⟨?_, Below.refl _ _⟩
    rw [← ix_ascii ⟨r, h⟩]
  · have e : ix r = -1 := by simp [ix]; omega
    rw [e]
    by_cases h2 : r = 65533
    · subst h2; exact rune_err w
    · cases hv : Lib.validRune (r : Int) with
      | false => exact rune_bad r (by omega) (by omega) hv w
      | true => exact rune_good r (by omega) (by omega) hv w

/-- Does a sign stand among the runes from a place on? -/
def sgF (s : ByteArray) : Nat → Nat → Bool
  | 0, _ => false
  | b + 1, k => if k < s.size then (if (Utf8.decode s k).1 = 43 ∨ (Utf8.decode s k).1 = 35 then true else sgF s b (k + (Utf8.decode s k).2)) else false
theorem sgF_end (s : ByteArray) (b k : Nat) (h : ¬ k < s.size) : sgF s b k = false := by
  cases b with
  | zero => rfl
  | succ b => simp [sgF, h]
theorem sgF_hit (s : ByteArray) (b k r n : Nat) (h : k < s.size) (hb : s.size ≤ k + b) (hd : Utf8.decode s k = (r, n)) (hr : r = 43 ∨ r = 35) : sgF s b k = true := by
  cases b with
  | zero => omega
  | succ b => simp only [sgF, h, if_true, hd, hr]
theorem sgF_step (s : ByteArray) (b k r n : Nat) (h : k < s.size) (hb : s.size ≤ k + b) (hd : Utf8.decode s k = (r, n)) (hn : 1 ≤ n) (hr : ¬ (r = 43 ∨ r = 35)) : ∃ b', sgF s b k = sgF s b' (k + n) ∧ s.size ≤ k + n + b' := by
  cases b with
  | zero => omega
  | succ b => exact ⟨b, by simp only [sgF, h, if_true, hd, hr, if_false], by omega⟩

/-- An iterator set to another place. -/
def setIt (w : World) (g : Nat) (s : ByteArray) (k : Nat) : World := { w with heap := w.heap.setIfInBounds g (.stringIter s k) }
theorem setIt_heap {w : World} {g : Nat} {s : ByteArray} {k k' : Nat} (h : w.heap[g]? = some (.stringIter s k)) : (setIt w g s k').heap[g]? = some (.stringIter s k') := by
  have hg : g < w.heap.size := by
    rcases Nat.lt_or_ge g w.heap.size with h1 | h1
    · exact h1
    · rw [Array.getElem?_eq_none h1] at h; cases h
  show (w.heap.setIfInBounds g (.stringIter s k'))[g]? = _
  rw [Array.getElem?_setIfInBounds]
  simp [hg]
theorem setIt_below {B : Nat} {w0 w : World} (hb : Below B w0 w) (g : Nat) (hg : B ≤ g) (s : ByteArray) (k : Nat) : Below B w0 (setIt w g s k) := by
  refine hb.trans ⟨rfl, rfl, rfl, by simp [setIt], fun i hi => ?_⟩
  show (w.heap.setIfInBounds g (.stringIter s k))[i]? = _
  rw [Array.getElem?_setIfInBounds, if_neg (by omega)]
theorem block_lt {w : World} {g : Nat} {o : Obj} (h : w.heap[g]? = some o) : g < w.heap.size := by
  rcases Nat.lt_or_ge g w.heap.size with h1 | h1
  · exact h1
  · rw [Array.getElem?_eq_none h1] at h; cases h
theorem iterPos_of {w : World} {g : Nat} {s : ByteArray} {k : Nat} (h : w.heap[g]? = some (.stringIter s k)) : w.iterPos g = k := by
  simp [World.iterPos, h]
theorem next_at {w : World} {g : Nat} {s : ByteArray} {k : Nat} (hit : w.heap[g]? = some (.stringIter s k)) (ty : TypeId) (h : k < s.size) (r n : Nat) (hd : Utf8.decode s k = (r, n)) :
    (Instr.next (.pointer (some ⟨g, 0, none⟩)) true ty).run Try.prog w = .ok (.tuple #[.bool true, .int .i64 k, .int .i32 r]) (setIt w g s (k + n)) := by
  simp only [Instr.next, getObj, setObj, Sem.run_bind, Sem.run, hit, Result.andThen, h, if_true, hd]
  simp [goInt, setIt]
theorem next_end {w : World} {g : Nat} {s : ByteArray} {k : Nat} (hit : w.heap[g]? = some (.stringIter s k)) (ty : TypeId) (h : ¬ k < s.size) :
    (Instr.next (.pointer (some ⟨g, 0, none⟩)) true ty).run Try.prog w = .ok (.tuple #[.bool false]) w := by
  simp [Instr.next, getObj, Sem.run, hit, h]

set_option maxRecDepth 1000000 in
set_option maxHeartbeats 1000000 in
theorem indexAny_short (s : ByteArray) (h8 : s.size ≤ 8) (w : World) : Calls Try.prog 72 #[.string s, .string ⟨#[43, 35]⟩] w fun e w' => ∃ x : Int, e = .returned (.int .i64 x) ∧ decide (0 ≤ x) = sgF s s.size 0 ∧ Below w.heap.size w w' := by
  have h8z : decide ((8 : Int) < (s.size : Int)) = false := decide_eq_false (by omega)
  go_enter Try.func72, Try.ntmps72
  go_wp2_with (go_at_call 88; refine (Try.strings_shouldUseASCIISet _ _).mono ?_; rintro e w' ⟨rfl, he⟩; obtain rfl := he.symm; clear he; rw [h8z])
  go_loopw [9, 10] (fun i c w' => ∃ k b : Nat, Hid (Below w.heap.size w w') ∧ Hid (w'.heap[w.heap.size]? = some (.stringIter s k)) ∧ Hid (sgF s s.size 0 = sgF s b k) ∧ s.size ≤ k + b) (fun _ _ w' => s.size - w'.iterPos w.heap.size)
  case atStart => exact ⟨0, s.size, below_iter _ _ _, World.iter_heap w s 0, rfl, by omega⟩
  case round =>
    obtain ⟨k, b, B, hit, hc, hb⟩ := hrel
    have hpos := iterPos_of hit.out
    by_cases hlt : k < s.size
    · obtain ⟨r, n, hd⟩ : ∃ r n, Utf8.decode s k = (r, n) := ⟨_, _, rfl⟩
      have hn : 1 ≤ n := by have := width_pos s k; rw [hd] at this; exact this
      have hnx := fun ty => next_at hit.out ty hlt r n hd
      have hit2 := setIt_heap (k' := k + n) hit.out
      have B2 := setIt_below B.out w.heap.size (Nat.le_refl _) s (k + n)
      generalize setIt wr w.heap.size s (k + n) = w2 at *
      have HB2 : Hid (Below w.heap.size w w2) := B2
      have HI2 : Hid (w2.heap[w.heap.size]? = some (.stringIter s (k + n))) := hit2
      clear B2 hit2
      by_cases hr : r = 43 ∨ r = 35
      · have HS : Hid (sgF s s.size 0 = true) := hc.out.trans (sgF_hit s b k r n hlt hb hd hr)
        have hx : (0 : Int) ≤ ix r := by rcases hr with rfl | rfl <;> decide
        have HK : Hid ((0 : Int) ≤ k) := Int.natCast_nonneg k
        clear hd hr hc
        go_wp2_with (go_at_call 87; refine (rune_any _ _).mono ?_; rintro e w3 ⟨rfl, hb3⟩; have B3 : Hid (Below w.heap.size w w3) := HB2.out.trans (hb3.mono HB2.out.size); clear hb3)
        go_ret
        exact ⟨_, rfl, by rw [HS.out]; exact decide_eq_true HK.out, B3.out⟩
      · obtain ⟨b', e1, e2⟩ := sgF_step s b k r n hlt hb hd hn hr
        have HS : Hid (sgF s s.size 0 = sgF s b' (k + n)) := hc.out.trans e1
        have hx : ¬ (0 : Int) ≤ ix r := by
          have h1 : ¬ r = 43 := fun h => hr (.inl h)
          have h2 : ¬ r = 35 := fun h => hr (.inr h)
          simp [ix, h1, h2]
        clear hd hr hc e1
        go_wp2_with (go_at_call 87; refine (rune_any _ _).mono ?_; rintro e w3 ⟨rfl, hb3⟩; have B3 : Hid (Below w.heap.size w w3) := HB2.out.trans (hb3.mono HB2.out.size); have I3 : Hid (w3.heap[w.heap.size]? = some (.stringIter s (k + n))) := (hb3.block _ (block_lt HI2.out)).trans HI2.out; clear hb3)
        go_roundw
        case rel => exact ⟨k + n, b', B3, I3, HS, e2⟩
        case measure => rw [iterPos_of I3.out, hpos]; omega
    · have hnx := fun ty => next_end hit.out ty hlt
      have HS : Hid (sgF s s.size 0 = false) := hc.out.trans (sgF_end s b k hlt)
      go_wp2
      go_ret
      exact ⟨_, rfl, by rw [HS.out]; rfl, B.out⟩
end Go.Proofs.Ytepjcfhbbcaldaa
set_option maxRecDepth 100000
namespace Go.Proofs.Ytepjcfhbbcaldaa
open Go Go.RowKit
set_option linter.unusedSimpArgs false
set_option linter.unusedVariables false

/-- Does a text hold a sign? -/
def sgn (s : ByteArray) : Bool := if 8 < s.size then decide (0 ≤ Lib.indexAny s.data.toList [43, 35]) else sgF s s.size 0
theorem indexAny_any (s : ByteArray) (hs : s.size ≤ 65535) (w : World) : Calls Try.prog 72 #[.string s, .string ⟨#[43, 35]⟩] w fun e w' => ∃ x : Int, e = .returned (.int .i64 x) ∧ decide (0 ≤ x) = sgn s ∧ Below w.heap.size w w' := by
  by_cases h : 8 < s.size
  · have := Try.strings_IndexAny_long (fun w => (zero_of_info (P := Try.prog) (t := 127) (n := 256) (by kernel_rfl)).1 w) s ⟨#[43, 35]⟩ w (by decide) h (by omega) (by decide) (fun j b hj => by
      match j, hj with
      | 0, hj => simp at hj; subst hj; decide
      | 1, hj => simp at hj; subst hj; decide
      | j + 2, hj => simp at hj)
    refine this.mono ?_
    rintro e w' ⟨rfl, rfl⟩
    exact ⟨_, rfl, by simp only [sgn, h, if_true], ((Below.refl _ _).alloc (Nat.le_refl _) _).alloc (by simp) _⟩
  · rw [show sgn s = sgF s s.size 0 by simp [sgn, h]]
    exact indexAny_short s (by omega) w

theorem containsAny_any (s : ByteArray) (hs : s.size ≤ 65535) (w : World) : Calls Try.prog 58 #[.string s, .string ⟨#[43, 35]⟩] w fun e w' => e = .returned (.bool (sgn s)) ∧ Below w.heap.size w w' := by
  go_enter Try.func58, Try.ntmps58
  go_wp2_with (go_at_call 72; refine (indexAny_any s hs _).mono ?_; rintro e w1 ⟨x, rfl, hx, hb⟩; have HX : Hid (decide (0 ≤ x) = sgn s) := hx; have B1 : Hid (Below w.heap.size w w1) := hb; clear hx hb)
  go_ret
  exact ⟨by rw [← HX.out]; rfl, B1.out⟩

/-- What is told of a text that must not be empty. -/
def ct (s : ByteArray) : Int := if s.size = 0 then 50 else if txt s then 0 else 51
theorem checkText_any (s : ByteArray) (w : World) : Calls Try.prog 40 #[.string s] w fun e w' => e = .returned (.int .i64 (ct s)) ∧ Below w.heap.size w w' := by
  by_cases h0 : s.size = 0
  · have he : s.toList.isEmpty = true := by
      have h := isEmpty_size s
      cases hx : s.toList.isEmpty with
      | true => rfl
      | false =>
        rw [hx, h0] at h
        cases h
    rw [show ct s = 50 by simp [ct, h0]]
    go_enter Try.func40, Try.ntmps40
    go_wp2
    go_ret
    exact ⟨rfl, Below.refl _ _⟩
  · have he : s.toList.isEmpty = false := by
      have h := isEmpty_size s
      cases hx : s.toList.isEmpty with
      | false => rfl
      | true =>
        rw [hx] at h
        have hz : (s.size != 0) = true := by simp [h0]
        rw [hz] at h
        cases h
    cases ht : txt s with
    | true =>
      have hc : ((chk s).2 : Int) = 0 := by have := ht; unfold txt at this; simpa using this
      rw [show ct s = 0 by simp [ct, h0, ht]]
      clear ht h0
      go_enter Try.func40, Try.ntmps40
      go_wp2_with (go_at_call 60; refine (chk_any s _).mono ?_; rintro e w1 ⟨rfl, hb, _⟩; have B1 : Hid (Below w.heap.size w w1) := hb; clear hb; rw [hc])
      go_ret
      exact ⟨rfl, B1.out⟩
    | false =>
      have hc : (((chk s).2 : Int) != 0) = true := by have := ht; unfold txt at this; simpa using this
      rw [show ct s = 51 by simp [ct, h0, ht]]
      clear ht h0
      go_enter Try.func40, Try.ntmps40
      go_wp2_with (go_at_call 60; refine (chk_any s _).mono ?_; rintro e w1 ⟨rfl, hb, _⟩; have B1 : Hid (Below w.heap.size w w1) := hb; clear hb)
      go_ret
      exact ⟨rfl, B1.out⟩
/-- Is a text a topic? -/
def top (s : ByteArray) : Bool := !decide (s.size = 0) && txt s && !sgn s
theorem topicCheck_any (s : ByteArray) (w : World) : Calls Try.prog 34 #[.string s] w fun e w' => ∃ x : Int, e = .returned (.int .i64 x) ∧ (x != 0) = (!top s) ∧ Below w.heap.size w w' := by
  by_cases hc : ct s = 0
  · have ht : ¬ s.size = 0 ∧ txt s = true := by
      unfold ct at hc
      by_cases h0 : s.size = 0
      · simp [h0] at hc
      · refine ⟨h0, ?_⟩
        cases h : txt s <;> simp [h0, h] at hc ⊢
    have hs := txt_size ht.2
    have htop : top s = !sgn s := by simp [top, ht.1, ht.2]
    cases hg : sgn s with
    | true =>
      have HT : Hid (top s = false) := by show top s = false; rw [htop, hg]; rfl
      clear ht htop
      go_enter Try.func34, Try.ntmps34
      go_wp2_with (go_at_call 40; refine (checkText_any s _).mono ?_; rintro e w1 ⟨rfl, hb⟩; have B1 : Hid (Below w.heap.size w w1) := hb; clear hb; rw [hc])
      go_must (go_at_call 58)
      refine (containsAny_any s hs _).mono ?_
      rintro e w2 ⟨rfl, hb⟩
      have B2 : Hid (Below w.heap.size w w2) := B1.out.trans (hb.mono B1.out.size)
      clear hb
      rw [hg]
      go_wp2
      go_ret
      exact ⟨_, rfl, by rw [HT.out]; rfl, B2.out⟩
    | false =>
      have HT : Hid (top s = true) := by show top s = true; rw [htop, hg]; rfl
      clear ht htop
      go_enter Try.func34, Try.ntmps34
      go_wp2_with (go_at_call 40; refine (checkText_any s _).mono ?_; rintro e w1 ⟨rfl, hb⟩; have B1 : Hid (Below w.heap.size w w1) := hb; clear hb; rw [hc])
      go_must (go_at_call 58)
      refine (containsAny_any s hs _).mono ?_
      rintro e w2 ⟨rfl, hb⟩
      have B2 : Hid (Below w.heap.size w w2) := B1.out.trans (hb.mono B1.out.size)
      clear hb
      rw [hg]
      go_wp2
      go_ret
      exact ⟨_, rfl, by rw [HT.out]; rfl, B2.out⟩
  · have HT : Hid (top s = false) := by
      show top s = false
      unfold ct at hc
      by_cases h0 : s.size = 0
      · simp [top, h0]
      · cases h : txt s <;> simp [h0, h, top] at hc ⊢
    have hc' : (ct s != 0) = true := by simpa using hc
    have HC : Hid ((ct s != 0) = true) := hc'
    go_enter Try.func34, Try.ntmps34
    go_wp2_with (go_at_call 40; refine (checkText_any s _).mono ?_; rintro e w1 ⟨rfl, hb⟩; have B1 : Hid (Below w.heap.size w w1) := hb; clear hb)
    go_ret
    exact ⟨_, rfl, by rw [HT.out]; exact HC.out, B1.out⟩
end Go.Proofs.Ytepjcfhbbcaldaa
namespace Go.Proofs.Ytepjcfhbbcaldaa
open Go Go.RowKit
set_option linter.unusedSimpArgs false
set_option linter.unusedVariables false

/-- What topic.Check and topic.CheckFilter tell. -/
def tcode (s : ByteArray) : Int := if ct s = 0 then (if sgn s then 52 else 0) else ct s
def topb (s : ByteArray) : Bool := tcode s == 0
theorem ct_zero {s : ByteArray} (hc : ct s = 0) : s.size ≤ 65535 := by
  unfold ct at hc
  by_cases h0 : s.size = 0
  · omega
  · cases h : txt s with
    | true => exact txt_size h
    | false => simp [h0, h] at hc
theorem tcheck_any (s : ByteArray) (w : World) : Calls Try.prog 34 #[.string s] w fun e w' => e = .returned (.int .i64 (tcode s)) ∧ Below w.heap.size w w' := by
  by_cases hc : ct s = 0
  · have hs := ct_zero hc
    cases hg : sgn s with
    | true =>
      rw [show tcode s = 52 by simp [tcode, hc, hg]]
      go_enter Try.func34, Try.ntmps34
      go_wp2_with (go_at_call 40; refine (checkText_any s _).mono ?_; rintro e w1 ⟨rfl, hb⟩; have B1 : Hid (Below w.heap.size w w1) := hb; clear hb; rw [hc])
      go_must (go_at_call 58)
      refine (containsAny_any s hs _).mono ?_
      rintro e w2 ⟨rfl, hb⟩
      have B2 : Hid (Below w.heap.size w w2) := B1.out.trans (hb.mono B1.out.size)
      clear hb
      rw [hg]
      go_wp2
      go_ret
      exact ⟨rfl, B2.out⟩
    | false =>
      rw [show tcode s = 0 by simp [tcode, hc, hg]]
      go_enter Try.func34, Try.ntmps34
      go_wp2_with (go_at_call 40; refine (checkText_any s _).mono ?_; rintro e w1 ⟨rfl, hb⟩; have B1 : Hid (Below w.heap.size w w1) := hb; clear hb; rw [hc])
      go_must (go_at_call 58)
      refine (containsAny_any s hs _).mono ?_
      rintro e w2 ⟨rfl, hb⟩
      have B2 : Hid (Below w.heap.size w w2) := B1.out.trans (hb.mono B1.out.size)
      clear hb
      rw [hg]
      go_wp2
      go_ret
      exact ⟨rfl, B2.out⟩
  · have hc' : (ct s != 0) = true := by simpa using hc
    rw [show tcode s = ct s by simp [tcode, hc]]
    go_enter Try.func34, Try.ntmps34
    go_wp2_with (go_at_call 40; refine (checkText_any s _).mono ?_; rintro e w1 ⟨rfl, hb⟩; have B1 : Hid (Below w.heap.size w w1) := hb; clear hb)
    go_ret
    exact ⟨rfl, B1.out⟩
end Go.Proofs.Ytepjcfhbbcaldaa
