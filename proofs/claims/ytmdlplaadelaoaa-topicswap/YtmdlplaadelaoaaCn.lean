import Derived.Test.YtmdlplaadelaoaaCm
namespace Go.Proofs.Ytmdlplaadelaoaa
open Go Go.RowKit
set_option linter.unusedSimpArgs false
set_option linter.unusedVariables false

theorem own_slice {w : World} {B : Nat} {v : Value} {xs : List ByteArray} (ho : w.ownsRow B 9 1 v xs.length (xs.map Value.string)) (hne : xs ≠ []) : ∃ g n cap, v = .slice (some ⟨g, 0, none⟩) n cap ∧ n = xs.length ∧ n ≤ cap ∧ B ≤ g ∧ g < w.heap.size := by
  rcases ho.2 with ⟨rfl, h⟩ | ⟨g, cap, cur, rfl, hb, hg, hnc, _⟩
  · exact absurd (List.eq_nil_of_length_eq_zero h) hne
  · exact ⟨g, _, cap, rfl, rfl, hnc, hb, block_lt hg⟩
theorem row_of' {w : World} {B n : Nat} {v : Value} {xs : List ByteArray} (hn : n = xs.length) (ho : w.ownsRow B 9 1 v n (xs.map Value.string)) : Row w v xs := by
  subst hn; exact row_of ho
theorem levels_ne (s : ByteArray) : levels s ≠ [] := by
  obtain ⟨g, r, h, _⟩ := levels_head s
  rw [h]; simp
theorem map_set_str (xs : List ByteArray) (i : Nat) (z : ByteArray) : (xs.map Value.string).set i (.string z) = (xs.set i z).map Value.string := by
  rw [List.map_set]
theorem below_set {B : Nat} {w0 w : World} (hb : Below B w0 w) {g j : Nat} {u : Value} (hg : B ≤ g) (hgr : w.grownBy (w.setCell ⟨g, j, none⟩ u) (some g)) (hw : w0.heap.size ≤ w.heap.size) : Below B w0 (w.setCell ⟨g, j, none⟩ u) :=
  hb.trans ⟨hgr.os, hgr.tape, hgr.output, hgr.size, fun k hk => by
    rcases Nat.lt_or_ge k w.heap.size with h | h
    · exact hgr.block k h (fun e => by have : k = g := Option.some.inj e; omega)
    · have e1 : w.heap[k]? = none := Array.getElem?_eq_none h
      have e2 : (w.setCell ⟨g, j, none⟩ u).heap[k]? = none := Array.getElem?_eq_none (by simpa using h)
      rw [e1, e2]⟩
theorem plain_big (f t z : ByteArray) (k : Int) (w : World) (h : 5000 < f.size ∨ 5000 < t.size ∨ 5000 < z.size) : Calls Try.prog 5 #[.string f, .string t, .string z, .int .i64 k] w fun e w' => e = .returned (.bool true) ∧ Below w.heap.size w w' := by
  by_cases i1 : 5000 < f.size
  · have i1' : (5000 : Int) < f.size := by omega
    go_enter Try.func5, Try.ntmps5
    go_wp2_with fail
    go_ret
    exact ⟨rfl, Below.refl _ _⟩
  have i1' : ¬ (5000 : Int) < f.size := by omega
  by_cases i2 : 5000 < t.size
  · have i2' : (5000 : Int) < t.size := by omega
    go_enter Try.func5, Try.ntmps5
    go_wp2_with fail
    go_ret
    exact ⟨rfl, Below.refl _ _⟩
  have i2' : ¬ (5000 : Int) < t.size := by omega
  have i3' : (5000 : Int) < z.size := by omega
  go_enter Try.func5, Try.ntmps5
  go_wp2_with fail
  go_ret
  exact ⟨rfl, Below.refl _ _⟩

set_option maxRecDepth 100000 in
set_option maxHeartbeats 4000000 in
theorem plain_A00F0 (f t z : ByteArray) (k : Int) (w : World) (hf : f.size ≤ 5000) (ht : t.size ≤ 5000) (hz : z.size ≤ 5000) (a1 : (tcode t == 0) = false) (hm : mch f t = false) (hF : (rfc f != 0) = true) : Calls Try.prog 5 #[.string f, .string t, .string z, .int .i64 k] w fun e w' => e = .returned (.bool true) ∧ Below w.heap.size w w' := by
  have HS : Hid (f.size ≤ 5000 ∧ t.size ≤ 5000) := ⟨hf, ht⟩
  have i1 : ¬ (5000 : Int) < f.size := by omega
  have i2 : ¬ (5000 : Int) < t.size := by omega
  have i3 : ¬ (5000 : Int) < z.size := by omega
  obtain ⟨w0, hw0⟩ : ∃ w0, w0 = w := ⟨_, rfl⟩
  rw [← hw0]
  have B : Hid (Below w0.heap.size w0 w0) := Below.refl _ _
  clear hw0 hf ht hz
  go_enter Try.func5, Try.ntmps5
  go_wp2_with (first
    | (go_at_call 11; refine (known_any _).mono ?_; rintro e w' ⟨rfl, hb⟩; replace B : Hid (Below w0.heap.size w0 w') := B.out.trans (hb.mono B.out.size); clear hb)
    | (go_at_call 14; refine (tcheck_any _ _).mono ?_; rintro e w' ⟨rfl, hb⟩; replace B : Hid (Below w0.heap.size w0 w') := B.out.trans (hb.mono B.out.size); clear hb)
    | (go_at_call 15; refine (fcheck_any _ _).mono ?_; rintro e w' ⟨rfl, hb⟩; replace B : Hid (Below w0.heap.size w0 w') := B.out.trans (hb.mono B.out.size); clear hb)
    | (go_at_call 9; refine (tmatch_any _ _ _).mono ?_; rintro e w' ⟨rfl, hb⟩; replace B : Hid (Below w0.heap.size w0 w') := B.out.trans (hb.mono B.out.size); clear hb; first | rw [hm]))
  go_must (go_at_call 13)
  refine (tlevels_any f (by have := HS.out; omega) _).mono ?_
  rintro e wl ⟨v, rfl, ho, hb⟩
  obtain ⟨g, n, cap, rfl, hn, hc, hg1, hg2⟩ := own_slice ho (levels_ne f)
  replace B : Hid (Below w0.heap.size w0 wl) := B.out.trans (hb.mono B.out.size)
  clear hb ho hn hc hg1 hg2
  go_wp2_with fail
  go_must (go_at_call 15)
  refine (fcheck_any f _).mono ?_
  rintro e wk ⟨rfl, hb⟩
  replace B : Hid (Below w0.heap.size w0 wk) := B.out.trans (hb.mono B.out.size)
  clear hb
  go_wp2_with fail
  go_ret
  exact ⟨rfl, B.out⟩

set_option maxRecDepth 100000 in
set_option maxHeartbeats 4000000 in
theorem plain_A00F1 (f t z : ByteArray) (k : Int) (w : World) (hf : f.size ≤ 5000) (ht : t.size ≤ 5000) (hz : z.size ≤ 5000) (a1 : (tcode t == 0) = false) (hm : mch f t = false) (hF : rfc f = 0) (mm : Nat) (lst : ByteArray) (hL : (levels f).length = mm + 1 ∧ (levels f)[mm]? = some lst) (h35 : unB lst = [35]) : Calls Try.prog 5 #[.string f, .string t, .string z, .int .i64 k] w fun e w' => e = .returned (.bool true) ∧ Below w.heap.size w w' := by
  have HS : Hid (f.size ≤ 5000 ∧ t.size ≤ 5000) := ⟨hf, ht⟩
  have i1 : ¬ (5000 : Int) < f.size := by omega
  have i2 : ¬ (5000 : Int) < t.size := by omega
  have i3 : ¬ (5000 : Int) < z.size := by omega
  have HL : Hid ((levels f).length = mm + 1 ∧ (levels f)[mm]? = some lst ∧ True) := ⟨hL.1, hL.2, trivial⟩
  have HF : Hid (rfc f = 0) := hF
  have ql : (lst.toList == (⟨#[35]⟩ : ByteArray).toList) = true := by rw [eq_one]; exact decide_eq_true h35
  have ql' : (lst.toList == [35]) = true := by rw [eq_one']; exact decide_eq_true h35
  clear h35 hL hF
  obtain ⟨w0, hw0⟩ : ∃ w0, w0 = w := ⟨_, rfl⟩
  rw [← hw0]
  have B : Hid (Below w0.heap.size w0 w0) := Below.refl _ _
  clear hw0 hf ht hz
  go_enter Try.func5, Try.ntmps5
  go_wp2_with (first
    | (go_at_call 11; refine (known_any _).mono ?_; rintro e w' ⟨rfl, hb⟩; replace B : Hid (Below w0.heap.size w0 w') := B.out.trans (hb.mono B.out.size); clear hb)
    | (go_at_call 14; refine (tcheck_any _ _).mono ?_; rintro e w' ⟨rfl, hb⟩; replace B : Hid (Below w0.heap.size w0 w') := B.out.trans (hb.mono B.out.size); clear hb)
    | (go_at_call 15; refine (fcheck_any _ _).mono ?_; rintro e w' ⟨rfl, hb⟩; replace B : Hid (Below w0.heap.size w0 w') := B.out.trans (hb.mono B.out.size); clear hb)
    | (go_at_call 9; refine (tmatch_any _ _ _).mono ?_; rintro e w' ⟨rfl, hb⟩; replace B : Hid (Below w0.heap.size w0 w') := B.out.trans (hb.mono B.out.size); clear hb; first | rw [hm]))
  go_must (go_at_call 13)
  refine (tlevels_any f (by have := HS.out; omega) _).mono ?_
  rintro e wl ⟨v, rfl, ho, hb⟩
  obtain ⟨g, n, cap, rfl, hn, hc, hg1, hg2⟩ := own_slice ho (levels_ne f)
  have hl1 := HL.out.1
  have ho' := ho
  rw [← hn] at ho'
  have HC : Hid (wl.cell? ⟨g, mm, none⟩ = some (.string lst)) := by
    show _ = _
    rw [ho'.cellAt mm (by omega), List.getElem?_map, HL.out.2.1]; rfl
  have HG : Hid (g < wl.heap.size) := hg2
  have HNN : Hid (n = mm + 1 ∧ n ≤ cap ∧ mm ≤ 1000000) := ⟨by rw [hn, HL.out.1], hc, by have := levels_len f; have := HS.out; have := HL.out.1; omega⟩
  have hw : IntKind.i64.wrap ((n : Int) - 1) = (mm : Int) := by rw [IntKind.wrap_i64]; have := HNN.out; omega
  have hlt : (mm : Int) < (n : Int) := by have := HNN.out; omega
  replace B : Hid (Below w0.heap.size w0 wl) := B.out.trans (hb.mono B.out.size)
  clear hb ho hn hc hg1 hg2 hl1 ho'
  go_wp2_with fail
  go_must (go_at_call 15)
  refine (fcheck_any f _).mono ?_
  rintro e wk ⟨rfl, hb⟩
  rw [HF.out]
  have c2 : wk.cell? ⟨g, mm, none⟩ = some (.string lst) := by
    rw [hb.cell (by exact HG.out)]; exact HC.out
  replace B : Hid (Below w0.heap.size w0 wk) := B.out.trans (hb.mono B.out.size)
  clear hb
  go_wp2_with fail
  go_ret
  exact ⟨rfl, B.out⟩

set_option maxRecDepth 100000 in
set_option maxHeartbeats 4000000 in
theorem plain_A00F2 (f t z : ByteArray) (k : Int) (w : World) (hf : f.size ≤ 5000) (ht : t.size ≤ 5000) (hz : z.size ≤ 5000) (a1 : (tcode t == 0) = false) (hm : mch f t = false) (hF : rfc f = 0) (mm : Nat) (lst : ByteArray) (hL : (levels f).length = mm + 1 ∧ (levels f)[mm]? = some lst) (h35 : ¬ unB lst = [35]) (p : Bool) (e1 : mch (f ++ ⟨#[47, 35]⟩) t = p) (e3 : mch (f ++ ⟨#[47, 43, 47, 35]⟩) t = p) : Calls Try.prog 5 #[.string f, .string t, .string z, .int .i64 k] w fun e w' => e = .returned (.bool true) ∧ Below w.heap.size w w' := by
  have HS : Hid (f.size ≤ 5000 ∧ t.size ≤ 5000) := ⟨hf, ht⟩
  have i1 : ¬ (5000 : Int) < f.size := by omega
  have i2 : ¬ (5000 : Int) < t.size := by omega
  have i3 : ¬ (5000 : Int) < z.size := by omega
  have HL : Hid ((levels f).length = mm + 1 ∧ (levels f)[mm]? = some lst ∧ True) := ⟨hL.1, hL.2, trivial⟩
  have HF : Hid (rfc f = 0) := hF
  have ql : (lst.toList == (⟨#[35]⟩ : ByteArray).toList) = false := by rw [eq_one]; exact decide_eq_false h35
  have ql' : (lst.toList == [35]) = false := by rw [eq_one']; exact decide_eq_false h35
  have qp : (p == p) = true := by simp
  clear h35 hL hF
  obtain ⟨w0, hw0⟩ : ∃ w0, w0 = w := ⟨_, rfl⟩
  rw [← hw0]
  have B : Hid (Below w0.heap.size w0 w0) := Below.refl _ _
  clear hw0 hf ht hz
  go_enter Try.func5, Try.ntmps5
  go_wp2_with (first
    | (go_at_call 11; refine (known_any _).mono ?_; rintro e w' ⟨rfl, hb⟩; replace B : Hid (Below w0.heap.size w0 w') := B.out.trans (hb.mono B.out.size); clear hb)
    | (go_at_call 14; refine (tcheck_any _ _).mono ?_; rintro e w' ⟨rfl, hb⟩; replace B : Hid (Below w0.heap.size w0 w') := B.out.trans (hb.mono B.out.size); clear hb)
    | (go_at_call 15; refine (fcheck_any _ _).mono ?_; rintro e w' ⟨rfl, hb⟩; replace B : Hid (Below w0.heap.size w0 w') := B.out.trans (hb.mono B.out.size); clear hb)
    | (go_at_call 9; refine (tmatch_any _ _ _).mono ?_; rintro e w' ⟨rfl, hb⟩; replace B : Hid (Below w0.heap.size w0 w') := B.out.trans (hb.mono B.out.size); clear hb; first | rw [hm]))
  go_must (go_at_call 13)
  refine (tlevels_any f (by have := HS.out; omega) _).mono ?_
  rintro e wl ⟨v, rfl, ho, hb⟩
  obtain ⟨g, n, cap, rfl, hn, hc, hg1, hg2⟩ := own_slice ho (levels_ne f)
  have hl1 := HL.out.1
  have ho' := ho
  rw [← hn] at ho'
  have HC : Hid (wl.cell? ⟨g, mm, none⟩ = some (.string lst)) := by
    show _ = _
    rw [ho'.cellAt mm (by omega), List.getElem?_map, HL.out.2.1]; rfl
  have HG : Hid (g < wl.heap.size) := hg2
  have HNN : Hid (n = mm + 1 ∧ n ≤ cap ∧ mm ≤ 1000000) := ⟨by rw [hn, HL.out.1], hc, by have := levels_len f; have := HS.out; have := HL.out.1; omega⟩
  have hw : IntKind.i64.wrap ((n : Int) - 1) = (mm : Int) := by rw [IntKind.wrap_i64]; have := HNN.out; omega
  have hlt : (mm : Int) < (n : Int) := by have := HNN.out; omega
  replace B : Hid (Below w0.heap.size w0 wl) := B.out.trans (hb.mono B.out.size)
  clear hb ho hn hc hg1 hg2 hl1 ho'
  go_wp2_with fail
  go_must (go_at_call 15)
  refine (fcheck_any f _).mono ?_
  rintro e wk ⟨rfl, hb⟩
  rw [HF.out]
  have c2 : wk.cell? ⟨g, mm, none⟩ = some (.string lst) := by
    rw [hb.cell (by exact HG.out)]; exact HC.out
  replace B : Hid (Below w0.heap.size w0 wk) := B.out.trans (hb.mono B.out.size)
  clear hb
  go_wp2_with (go_at_call 9; refine (tmatch_any _ _ _).mono ?_; rintro e w' ⟨rfl, hb⟩; replace B : Hid (Below w0.heap.size w0 w') := B.out.trans (hb.mono B.out.size); clear hb; first | rw [hm] | rw [e1] | rw [e3])
  go_ret
  exact ⟨rfl, B.out⟩

set_option maxRecDepth 100000 in
set_option maxHeartbeats 4000000 in
theorem plain_A10F0 (f t : ByteArray) (k : Int) (w : World) (hf : f.size ≤ 5000) (ht : t.size ≤ 5000) (a1 : tcode t = 0) (a2 : rfc t = 0) (a3 : mch t t = true) (hm : mch f t = false) (hF : (rfc f != 0) = true) : Calls Try.prog 5 #[.string f, .string t, .string t, .int .i64 k] w fun e w' => e = .returned (.bool true) ∧ Below w.heap.size w w' := by
  have HS : Hid (f.size ≤ 5000 ∧ t.size ≤ 5000) := ⟨hf, ht⟩
  have i1 : ¬ (5000 : Int) < f.size := by omega
  have i2 : ¬ (5000 : Int) < t.size := by omega

  have qe : (t.toList == t.toList) = true := by simp
  obtain ⟨w0, hw0⟩ : ∃ w0, w0 = w := ⟨_, rfl⟩
  rw [← hw0]
  have B : Hid (Below w0.heap.size w0 w0) := Below.refl _ _
  clear hw0 hf ht
  go_enter Try.func5, Try.ntmps5
  go_wp2_with (first
    | (go_at_call 11; refine (known_any _).mono ?_; rintro e w' ⟨rfl, hb⟩; replace B : Hid (Below w0.heap.size w0 w') := B.out.trans (hb.mono B.out.size); clear hb)
    | (go_at_call 14; refine (tcheck_any _ _).mono ?_; rintro e w' ⟨rfl, hb⟩; replace B : Hid (Below w0.heap.size w0 w') := B.out.trans (hb.mono B.out.size); clear hb; rw [a1])
    | (go_at_call 15; refine (fcheck_any _ _).mono ?_; rintro e w' ⟨rfl, hb⟩; replace B : Hid (Below w0.heap.size w0 w') := B.out.trans (hb.mono B.out.size); clear hb; rw [a2])
    | (go_at_call 9; refine (tmatch_any _ _ _).mono ?_; rintro e w' ⟨rfl, hb⟩; replace B : Hid (Below w0.heap.size w0 w') := B.out.trans (hb.mono B.out.size); clear hb; first | rw [hm] | rw [a3]))
  go_must (go_at_call 13)
  refine (tlevels_any f (by have := HS.out; omega) _).mono ?_
  rintro e wl ⟨v, rfl, ho, hb⟩
  obtain ⟨g, n, cap, rfl, hn, hc, hg1, hg2⟩ := own_slice ho (levels_ne f)
  replace B : Hid (Below w0.heap.size w0 wl) := B.out.trans (hb.mono B.out.size)
  clear hb ho hn hc hg1 hg2
  go_wp2_with fail
  go_must (go_at_call 15)
  refine (fcheck_any f _).mono ?_
  rintro e wk ⟨rfl, hb⟩
  replace B : Hid (Below w0.heap.size w0 wk) := B.out.trans (hb.mono B.out.size)
  clear hb
  go_wp2_with fail
  go_ret
  exact ⟨rfl, B.out⟩

set_option maxRecDepth 100000 in
set_option maxHeartbeats 4000000 in
theorem plain_A10F1 (f t : ByteArray) (k : Int) (w : World) (hf : f.size ≤ 5000) (ht : t.size ≤ 5000) (a1 : tcode t = 0) (a2 : rfc t = 0) (a3 : mch t t = true) (hm : mch f t = false) (hF : rfc f = 0) (mm : Nat) (lst : ByteArray) (hL : (levels f).length = mm + 1 ∧ (levels f)[mm]? = some lst) (h35 : unB lst = [35]) : Calls Try.prog 5 #[.string f, .string t, .string t, .int .i64 k] w fun e w' => e = .returned (.bool true) ∧ Below w.heap.size w w' := by
  have HS : Hid (f.size ≤ 5000 ∧ t.size ≤ 5000) := ⟨hf, ht⟩
  have i1 : ¬ (5000 : Int) < f.size := by omega
  have i2 : ¬ (5000 : Int) < t.size := by omega

  have qe : (t.toList == t.toList) = true := by simp
  have HL : Hid ((levels f).length = mm + 1 ∧ (levels f)[mm]? = some lst ∧ True) := ⟨hL.1, hL.2, trivial⟩
  have HF : Hid (rfc f = 0) := hF
  have ql : (lst.toList == (⟨#[35]⟩ : ByteArray).toList) = true := by rw [eq_one]; exact decide_eq_true h35
  have ql' : (lst.toList == [35]) = true := by rw [eq_one']; exact decide_eq_true h35
  clear h35 hL hF
  obtain ⟨w0, hw0⟩ : ∃ w0, w0 = w := ⟨_, rfl⟩
  rw [← hw0]
  have B : Hid (Below w0.heap.size w0 w0) := Below.refl _ _
  clear hw0 hf ht
  go_enter Try.func5, Try.ntmps5
  go_wp2_with (first
    | (go_at_call 11; refine (known_any _).mono ?_; rintro e w' ⟨rfl, hb⟩; replace B : Hid (Below w0.heap.size w0 w') := B.out.trans (hb.mono B.out.size); clear hb)
    | (go_at_call 14; refine (tcheck_any _ _).mono ?_; rintro e w' ⟨rfl, hb⟩; replace B : Hid (Below w0.heap.size w0 w') := B.out.trans (hb.mono B.out.size); clear hb; rw [a1])
    | (go_at_call 15; refine (fcheck_any _ _).mono ?_; rintro e w' ⟨rfl, hb⟩; replace B : Hid (Below w0.heap.size w0 w') := B.out.trans (hb.mono B.out.size); clear hb; rw [a2])
    | (go_at_call 9; refine (tmatch_any _ _ _).mono ?_; rintro e w' ⟨rfl, hb⟩; replace B : Hid (Below w0.heap.size w0 w') := B.out.trans (hb.mono B.out.size); clear hb; first | rw [hm] | rw [a3]))
  go_must (go_at_call 13)
  refine (tlevels_any f (by have := HS.out; omega) _).mono ?_
  rintro e wl ⟨v, rfl, ho, hb⟩
  obtain ⟨g, n, cap, rfl, hn, hc, hg1, hg2⟩ := own_slice ho (levels_ne f)
  have hl1 := HL.out.1
  have ho' := ho
  rw [← hn] at ho'
  have HC : Hid (wl.cell? ⟨g, mm, none⟩ = some (.string lst)) := by
    show _ = _
    rw [ho'.cellAt mm (by omega), List.getElem?_map, HL.out.2.1]; rfl
  have HG : Hid (g < wl.heap.size) := hg2
  have HNN : Hid (n = mm + 1 ∧ n ≤ cap ∧ mm ≤ 1000000) := ⟨by rw [hn, HL.out.1], hc, by have := levels_len f; have := HS.out; have := HL.out.1; omega⟩
  have hw : IntKind.i64.wrap ((n : Int) - 1) = (mm : Int) := by rw [IntKind.wrap_i64]; have := HNN.out; omega
  have hlt : (mm : Int) < (n : Int) := by have := HNN.out; omega
  replace B : Hid (Below w0.heap.size w0 wl) := B.out.trans (hb.mono B.out.size)
  clear hb ho hn hc hg1 hg2 hl1 ho'
  go_wp2_with fail
  go_must (go_at_call 15)
  refine (fcheck_any f _).mono ?_
  rintro e wk ⟨rfl, hb⟩
  rw [HF.out]
  have c2 : wk.cell? ⟨g, mm, none⟩ = some (.string lst) := by
    rw [hb.cell (by exact HG.out)]; exact HC.out
  replace B : Hid (Below w0.heap.size w0 wk) := B.out.trans (hb.mono B.out.size)
  clear hb
  go_wp2_with fail
  go_ret
  exact ⟨rfl, B.out⟩

set_option maxRecDepth 100000 in
set_option maxHeartbeats 4000000 in
theorem plain_A10F2 (f t : ByteArray) (k : Int) (w : World) (hf : f.size ≤ 5000) (ht : t.size ≤ 5000) (a1 : tcode t = 0) (a2 : rfc t = 0) (a3 : mch t t = true) (hm : mch f t = false) (hF : rfc f = 0) (mm : Nat) (lst : ByteArray) (hL : (levels f).length = mm + 1 ∧ (levels f)[mm]? = some lst) (h35 : ¬ unB lst = [35]) (p : Bool) (e1 : mch (f ++ ⟨#[47, 35]⟩) t = p) (e3 : mch (f ++ ⟨#[47, 43, 47, 35]⟩) t = p) : Calls Try.prog 5 #[.string f, .string t, .string t, .int .i64 k] w fun e w' => e = .returned (.bool true) ∧ Below w.heap.size w w' := by
  have HS : Hid (f.size ≤ 5000 ∧ t.size ≤ 5000) := ⟨hf, ht⟩
  have i1 : ¬ (5000 : Int) < f.size := by omega
  have i2 : ¬ (5000 : Int) < t.size := by omega

  have qe : (t.toList == t.toList) = true := by simp
  have HL : Hid ((levels f).length = mm + 1 ∧ (levels f)[mm]? = some lst ∧ True) := ⟨hL.1, hL.2, trivial⟩
  have HF : Hid (rfc f = 0) := hF
  have ql : (lst.toList == (⟨#[35]⟩ : ByteArray).toList) = false := by rw [eq_one]; exact decide_eq_false h35
  have ql' : (lst.toList == [35]) = false := by rw [eq_one']; exact decide_eq_false h35
  have qp : (p == p) = true := by simp
  clear h35 hL hF
  obtain ⟨w0, hw0⟩ : ∃ w0, w0 = w := ⟨_, rfl⟩
  rw [← hw0]
  have B : Hid (Below w0.heap.size w0 w0) := Below.refl _ _
  clear hw0 hf ht
  go_enter Try.func5, Try.ntmps5
  go_wp2_with (first
    | (go_at_call 11; refine (known_any _).mono ?_; rintro e w' ⟨rfl, hb⟩; replace B : Hid (Below w0.heap.size w0 w') := B.out.trans (hb.mono B.out.size); clear hb)
    | (go_at_call 14; refine (tcheck_any _ _).mono ?_; rintro e w' ⟨rfl, hb⟩; replace B : Hid (Below w0.heap.size w0 w') := B.out.trans (hb.mono B.out.size); clear hb; rw [a1])
    | (go_at_call 15; refine (fcheck_any _ _).mono ?_; rintro e w' ⟨rfl, hb⟩; replace B : Hid (Below w0.heap.size w0 w') := B.out.trans (hb.mono B.out.size); clear hb; rw [a2])
    | (go_at_call 9; refine (tmatch_any _ _ _).mono ?_; rintro e w' ⟨rfl, hb⟩; replace B : Hid (Below w0.heap.size w0 w') := B.out.trans (hb.mono B.out.size); clear hb; first | rw [hm] | rw [a3]))
  go_must (go_at_call 13)
  refine (tlevels_any f (by have := HS.out; omega) _).mono ?_
  rintro e wl ⟨v, rfl, ho, hb⟩
  obtain ⟨g, n, cap, rfl, hn, hc, hg1, hg2⟩ := own_slice ho (levels_ne f)
  have hl1 := HL.out.1
  have ho' := ho
  rw [← hn] at ho'
  have HC : Hid (wl.cell? ⟨g, mm, none⟩ = some (.string lst)) := by
    show _ = _
    rw [ho'.cellAt mm (by omega), List.getElem?_map, HL.out.2.1]; rfl
  have HG : Hid (g < wl.heap.size) := hg2
  have HNN : Hid (n = mm + 1 ∧ n ≤ cap ∧ mm ≤ 1000000) := ⟨by rw [hn, HL.out.1], hc, by have := levels_len f; have := HS.out; have := HL.out.1; omega⟩
  have hw : IntKind.i64.wrap ((n : Int) - 1) = (mm : Int) := by rw [IntKind.wrap_i64]; have := HNN.out; omega
  have hlt : (mm : Int) < (n : Int) := by have := HNN.out; omega
  replace B : Hid (Below w0.heap.size w0 wl) := B.out.trans (hb.mono B.out.size)
  clear hb ho hn hc hg1 hg2 hl1 ho'
  go_wp2_with fail
  go_must (go_at_call 15)
  refine (fcheck_any f _).mono ?_
  rintro e wk ⟨rfl, hb⟩
  rw [HF.out]
  have c2 : wk.cell? ⟨g, mm, none⟩ = some (.string lst) := by
    rw [hb.cell (by exact HG.out)]; exact HC.out
  replace B : Hid (Below w0.heap.size w0 wk) := B.out.trans (hb.mono B.out.size)
  clear hb
  go_wp2_with (go_at_call 9; refine (tmatch_any _ _ _).mono ?_; rintro e w' ⟨rfl, hb⟩; replace B : Hid (Below w0.heap.size w0 w') := B.out.trans (hb.mono B.out.size); clear hb; first | rw [hm] | rw [e1] | rw [e3])
  go_ret
  exact ⟨rfl, B.out⟩

set_option maxRecDepth 100000 in
set_option maxHeartbeats 4000000 in
theorem plain_A11F1 (f t : ByteArray) (k : Int) (w : World) (hf : f.size ≤ 5000) (ht : t.size ≤ 5000) (a1 : tcode t = 0) (a2 : rfc t = 0) (a3 : mch t t = true) (hm : mch f t = true) (hF : rfc f = 0) (mm : Nat) (lst : ByteArray) (hL : (levels f).length = mm + 1 ∧ (levels f)[mm]? = some lst) (h35 : unB lst = [35]) : Calls Try.prog 5 #[.string f, .string t, .string t, .int .i64 k] w fun e w' => e = .returned (.bool true) ∧ Below w.heap.size w w' := by
  have HS : Hid (f.size ≤ 5000 ∧ t.size ≤ 5000) := ⟨hf, ht⟩
  have i1 : ¬ (5000 : Int) < f.size := by omega
  have i2 : ¬ (5000 : Int) < t.size := by omega

  have qe : (t.toList == t.toList) = true := by simp
  have HL : Hid ((levels f).length = mm + 1 ∧ (levels f)[mm]? = some lst ∧ True) := ⟨hL.1, hL.2, trivial⟩
  have HF : Hid (rfc f = 0) := hF
  have ql : (lst.toList == (⟨#[35]⟩ : ByteArray).toList) = true := by rw [eq_one]; exact decide_eq_true h35
  have ql' : (lst.toList == [35]) = true := by rw [eq_one']; exact decide_eq_true h35
  clear h35 hL hF
  have p0' : 0 < t.size := (tcode_zero a1).2
  have p0 : (0 : Int) < t.size := by omega
  have HAT : Hid (atB t 0 = (t[0]'p0').toNat) := atB_in t 0 p0'
  obtain ⟨w0, hw0⟩ : ∃ w0, w0 = w := ⟨_, rfl⟩
  rw [← hw0]
  have B : Hid (Below w0.heap.size w0 w0) := Below.refl _ _
  clear hw0 hf ht
  go_enter Try.func5, Try.ntmps5
  go_wp2_with (first
    | (go_at_call 11; refine (known_any _).mono ?_; rintro e w' ⟨rfl, hb⟩; replace B : Hid (Below w0.heap.size w0 w') := B.out.trans (hb.mono B.out.size); clear hb)
    | (go_at_call 14; refine (tcheck_any _ _).mono ?_; rintro e w' ⟨rfl, hb⟩; replace B : Hid (Below w0.heap.size w0 w') := B.out.trans (hb.mono B.out.size); clear hb; rw [a1])
    | (go_at_call 15; refine (fcheck_any _ _).mono ?_; rintro e w' ⟨rfl, hb⟩; replace B : Hid (Below w0.heap.size w0 w') := B.out.trans (hb.mono B.out.size); clear hb; rw [a2])
    | (go_at_call 9; refine (tmatch_any _ _ _).mono ?_; rintro e w' ⟨rfl, hb⟩; replace B : Hid (Below w0.heap.size w0 w') := B.out.trans (hb.mono B.out.size); clear hb; first | rw [hm] | rw [a3]))
  go_must (go_at_call 13)
  refine (tlevels_any f (by have := HS.out; omega) _).mono ?_
  rintro e wl ⟨v, rfl, ho, hb⟩
  obtain ⟨g, n, cap, rfl, hn, hc, hg1, hg2⟩ := own_slice ho (levels_ne f)
  have HO : Hid (wl.ownsRow (World.heap _).size 9 1 (.slice (some ⟨g, 0, none⟩) n cap) (levels f).length ((levels f).map Value.string)) := ho
  have HG1 : Hid (w0.heap.size ≤ g) := Nat.le_trans B.out.size hg1
  replace B : Hid (Below w0.heap.size w0 wl) := B.out.trans (hb.mono B.out.size)
  have HNN : Hid (n = (levels f).length ∧ n ≤ cap ∧ 0 < n ∧ n ≤ 1000001) := ⟨hn, hc, by have := levels_ne f; have := List.length_pos_iff.2 this; omega, by have := levels_len f; have := HS.out; omega⟩
  clear hb ho hn hc hg1 hg2
  go_wp2_with fail
  go_must (go_at_call 16)
  refine (place_any k n _ HNN.out.2.2.1 HNN.out.2.2.2).mono ?_
  rintro e wq ⟨⟨i, rfl, hi⟩, hee⟩
  obtain rfl := hee.symm
  clear hee
  obtain ⟨y, hy⟩ : ∃ y, (levels f)[i]? = some y := ⟨_, List.getElem?_eq_getElem (by have := HNN.out.1; omega)⟩
  have hnn := HNN.out.1
  obtain ⟨c1, f1⟩ : wl.cell? ⟨g, i, none⟩ = some (.string y) ∧ wl.frozen? ⟨g, i, none⟩ = false := by
    have ho := HO.out
    rw [← hnn] at ho
    exact ⟨by rw [ho.cellAt i (by omega), List.getElem?_map, hy]; rfl, ho.frozenAt i⟩
  have hlt : (i : Int) < (n : Int) := by omega
  have hcap := HNN.out.2.1
  have hsp : (split (unB f))[i]? = some (unB y) := by rw [← levels_split, List.getElem?_map, hy]; rfl
  have HSP : Hid ((split (unB f))[i]? = some (unB y)) := hsp
  have HI : Hid (i < n) := hi
  clear hy hnn hsp hi
  by_cases h35 : unB y = [35]
  · have q1 : (y.toList == (⟨#[35]⟩ : ByteArray).toList) = true := by rw [eq_one]; exact decide_eq_true h35
    have q1' : (y.toList == [35]) = true := by rw [eq_one']; exact decide_eq_true h35
    clear h35
    go_wp2_with fail
    go_must (go_at_call 13)
    refine (tlevels_any f (by have := HS.out; omega) _).mono ?_
    rintro e wl ⟨v, rfl, ho, hb⟩
    obtain ⟨g, n, cap, rfl, hn, hc, hg1, hg2⟩ := own_slice ho (levels_ne f)
    have hl1 := HL.out.1
    have ho' := ho
    rw [← hn] at ho'
    have HC : Hid (wl.cell? ⟨g, mm, none⟩ = some (.string lst)) := by
      show _ = _
      rw [ho'.cellAt mm (by omega), List.getElem?_map, HL.out.2.1]; rfl
    have HG : Hid (g < wl.heap.size) := hg2
    have HNN : Hid (n = mm + 1 ∧ n ≤ cap ∧ mm ≤ 1000000) := ⟨by rw [hn, HL.out.1], hc, by have := levels_len f; have := HS.out; have := HL.out.1; omega⟩
    have hw : IntKind.i64.wrap ((n : Int) - 1) = (mm : Int) := by rw [IntKind.wrap_i64]; have := HNN.out; omega
    have hlt : (mm : Int) < (n : Int) := by have := HNN.out; omega
    replace B : Hid (Below w0.heap.size w0 wl) := B.out.trans (hb.mono B.out.size)
    clear hb ho hn hc hg1 hg2 hl1 ho'
    go_wp2_with fail
    go_must (go_at_call 15)
    refine (fcheck_any f _).mono ?_
    rintro e wk ⟨rfl, hb⟩
    rw [HF.out]
    have c2 : wk.cell? ⟨g, mm, none⟩ = some (.string lst) := by
      rw [hb.cell (by exact HG.out)]; exact HC.out
    replace B : Hid (Below w0.heap.size w0 wk) := B.out.trans (hb.mono B.out.size)
    clear hb
    go_wp2_with fail
    go_ret
    exact ⟨rfl, B.out⟩
  have q1 : (y.toList == (⟨#[35]⟩ : ByteArray).toList) = false := by rw [eq_one]; exact decide_eq_false h35
  have q1' : (y.toList == [35]) = false := by rw [eq_one']; exact decide_eq_false h35
  have H35 : Hid (¬ unB y = [35]) := h35
  clear h35
  by_cases i0 : i = 0
  · subst i0
    by_cases h36 : atB t 0 = 36
    · have q0 : (((t[0]'p0').toNat : Int) == 36) = true := by rw [← HAT.out, h36]; rfl
      clear h36
      go_wp2_with fail
      go_must (go_at_call 13)
      refine (tlevels_any f (by have := HS.out; omega) _).mono ?_
      rintro e wl ⟨v, rfl, ho, hb⟩
      obtain ⟨g, n, cap, rfl, hn, hc, hg1, hg2⟩ := own_slice ho (levels_ne f)
      have hl1 := HL.out.1
      have ho' := ho
      rw [← hn] at ho'
      have HC : Hid (wl.cell? ⟨g, mm, none⟩ = some (.string lst)) := by
        show _ = _
        rw [ho'.cellAt mm (by omega), List.getElem?_map, HL.out.2.1]; rfl
      have HG : Hid (g < wl.heap.size) := hg2
      have HNN : Hid (n = mm + 1 ∧ n ≤ cap ∧ mm ≤ 1000000) := ⟨by rw [hn, HL.out.1], hc, by have := levels_len f; have := HS.out; have := HL.out.1; omega⟩
      have hw : IntKind.i64.wrap ((n : Int) - 1) = (mm : Int) := by rw [IntKind.wrap_i64]; have := HNN.out; omega
      have hlt : (mm : Int) < (n : Int) := by have := HNN.out; omega
      replace B : Hid (Below w0.heap.size w0 wl) := B.out.trans (hb.mono B.out.size)
      clear hb ho hn hc hg1 hg2 hl1 ho'
      go_wp2_with fail
      go_must (go_at_call 15)
      refine (fcheck_any f _).mono ?_
      rintro e wk ⟨rfl, hb⟩
      rw [HF.out]
      have c2 : wk.cell? ⟨g, mm, none⟩ = some (.string lst) := by
        rw [hb.cell (by exact HG.out)]; exact HC.out
      replace B : Hid (Below w0.heap.size w0 wk) := B.out.trans (hb.mono B.out.size)
      clear hb
      go_wp2_with fail
      go_ret
      exact ⟨rfl, B.out⟩
    · have q0 : (((t[0]'p0').toNat : Int) == 36) = false := by rw [← HAT.out, beq_eq_false_iff_ne]; omega
      have HP : Hid (mch (mkB (joinL ((split (unB f)).set 0 [43]))) t = true) := plain_set f t HS.out.1 0 (unB y) hm HSP.out H35.out (fun h => h36 h.2)
      clear h36
      have ho2 := HO.out
      rw [← HNN.out.1] at ho2
      have hst := ho2.stored 0 (.string ⟨#[43]⟩)
      have B2 : Hid (Below w0.heap.size w0 (wl.setCell ⟨g, 0, none⟩ (.string ⟨#[43]⟩))) := below_set B.out HG1.out hst.2 B.out.size
      have R2 : Hid (Row (wl.setCell ⟨g, 0, none⟩ (.string ⟨#[43]⟩)) (.slice (some ⟨g, 0, none⟩) n cap) ((levels f).set 0 ⟨#[43]⟩)) := by
        have h1 := hst.1
        rw [map_set_str] at h1
        have hlen : n = ((levels f).set 0 ⟨#[43]⟩).length := by rw [List.length_set]; exact HNN.out.1
        exact row_of' hlen h1
      have hmp : ((levels f).set 0 ⟨#[43]⟩).map unB = (split (unB f)).set 0 [43] := by rw [List.map_set, levels_split]; rfl
      have HJ : Hid (((levels f).set 0 ⟨#[43]⟩).map unB = (split (unB f)).set 0 [43]) := hmp
      have HJL : Hid ((joinL ((split (unB f)).set 0 [43])).length ≤ 1000001) := by
        have := join_set_len (split (unB f)) 0 [43]
        rw [join_split, un_size] at this
        show _ ≤ _
        have := HS.out.1
        simp at *
        omega
      clear ho2 hst hmp
      go_wp2_with fail
      obtain ⟨ws, hws⟩ : ∃ ws, ws = wl.setCell ⟨g, 0, none⟩ (.string ⟨#[43]⟩) := ⟨_, rfl⟩
      rw [← hws] at B2 R2
      rw [← hws]
      clear hws
      go_must (go_at_call 17)
      refine (join_any _ _ _ R2.out (by intro e; have := congrArg List.length e; simp at this; exact levels_ne f this) (by rw [List.length_set]; have := HNN.out; omega) (by rw [HJ.out]; exact HJL.out)).mono ?_
      rintro e wj ⟨rfl, hb⟩
      rw [HJ.out]
      replace B : Hid (Below w0.heap.size w0 wj) := B2.out.trans (hb.mono B2.out.size)
      clear hb
      go_wp2_with fail
      go_must (go_at_call 9)
      refine (tmatch_any _ _ _).mono ?_
      rintro e wm ⟨rfl, hb⟩
      rw [HP.out]
      replace B : Hid (Below w0.heap.size w0 wm) := B.out.trans (hb.mono B.out.size)
      clear hb
      go_wp2_with fail
      go_must (go_at_call 13)
      refine (tlevels_any f (by have := HS.out; omega) _).mono ?_
      rintro e wl ⟨v, rfl, ho, hb⟩
      obtain ⟨g, n, cap, rfl, hn, hc, hg1, hg2⟩ := own_slice ho (levels_ne f)
      have hl1 := HL.out.1
      have ho' := ho
      rw [← hn] at ho'
      have HC : Hid (wl.cell? ⟨g, mm, none⟩ = some (.string lst)) := by
        show _ = _
        rw [ho'.cellAt mm (by omega), List.getElem?_map, HL.out.2.1]; rfl
      have HG : Hid (g < wl.heap.size) := hg2
      have HNN : Hid (n = mm + 1 ∧ n ≤ cap ∧ mm ≤ 1000000) := ⟨by rw [hn, HL.out.1], hc, by have := levels_len f; have := HS.out; have := HL.out.1; omega⟩
      have hw : IntKind.i64.wrap ((n : Int) - 1) = (mm : Int) := by rw [IntKind.wrap_i64]; have := HNN.out; omega
      have hlt : (mm : Int) < (n : Int) := by have := HNN.out; omega
      replace B : Hid (Below w0.heap.size w0 wl) := B.out.trans (hb.mono B.out.size)
      clear hb ho hn hc hg1 hg2 hl1 ho'
      go_wp2_with fail
      go_must (go_at_call 15)
      refine (fcheck_any f _).mono ?_
      rintro e wk ⟨rfl, hb⟩
      rw [HF.out]
      have c2 : wk.cell? ⟨g, mm, none⟩ = some (.string lst) := by
        rw [hb.cell (by exact HG.out)]; exact HC.out
      replace B : Hid (Below w0.heap.size w0 wk) := B.out.trans (hb.mono B.out.size)
      clear hb
      go_wp2_with fail
      go_ret
      exact ⟨rfl, B.out⟩
  · have i0' : ((i : Int) == 0) = false := by rw [beq_eq_false_iff_ne]; omega
    have HP : Hid (mch (mkB (joinL ((split (unB f)).set i [43]))) t = true) := plain_set f t HS.out.1 i (unB y) hm HSP.out H35.out (fun h => i0 h.1)
    clear i0
    have ho2 := HO.out
    rw [← HNN.out.1] at ho2
    have hst := ho2.stored i (.string ⟨#[43]⟩)
    have B2 : Hid (Below w0.heap.size w0 (wl.setCell ⟨g, i, none⟩ (.string ⟨#[43]⟩))) := below_set B.out HG1.out hst.2 B.out.size
    have R2 : Hid (Row (wl.setCell ⟨g, i, none⟩ (.string ⟨#[43]⟩)) (.slice (some ⟨g, 0, none⟩) n cap) ((levels f).set i ⟨#[43]⟩)) := by
      have h1 := hst.1
      rw [map_set_str] at h1
      have hlen : n = ((levels f).set i ⟨#[43]⟩).length := by rw [List.length_set]; exact HNN.out.1
      exact row_of' hlen h1
    have hmp : ((levels f).set i ⟨#[43]⟩).map unB = (split (unB f)).set i [43] := by rw [List.map_set, levels_split]; rfl
    have HJ : Hid (((levels f).set i ⟨#[43]⟩).map unB = (split (unB f)).set i [43]) := hmp
    have HJL : Hid ((joinL ((split (unB f)).set i [43])).length ≤ 1000001) := by
      have := join_set_len (split (unB f)) i [43]
      rw [join_split, un_size] at this
      show _ ≤ _
      have := HS.out.1
      simp at *
      omega
    clear ho2 hst hmp
    go_wp2_with fail
    obtain ⟨ws, hws⟩ : ∃ ws, ws = wl.setCell ⟨g, i, none⟩ (.string ⟨#[43]⟩) := ⟨_, rfl⟩
    rw [← hws] at B2 R2
    rw [← hws]
    clear hws
    go_must (go_at_call 17)
    refine (join_any _ _ _ R2.out (by intro e; have := congrArg List.length e; simp at this; exact levels_ne f this) (by rw [List.length_set]; have := HNN.out; omega) (by rw [HJ.out]; exact HJL.out)).mono ?_
    rintro e wj ⟨rfl, hb⟩
    rw [HJ.out]
    replace B : Hid (Below w0.heap.size w0 wj) := B2.out.trans (hb.mono B2.out.size)
    clear hb
    go_wp2_with fail
    go_must (go_at_call 9)
    refine (tmatch_any _ _ _).mono ?_
    rintro e wm ⟨rfl, hb⟩
    rw [HP.out]
    replace B : Hid (Below w0.heap.size w0 wm) := B.out.trans (hb.mono B.out.size)
    clear hb
    go_wp2_with fail
    go_must (go_at_call 13)
    refine (tlevels_any f (by have := HS.out; omega) _).mono ?_
    rintro e wl ⟨v, rfl, ho, hb⟩
    obtain ⟨g, n, cap, rfl, hn, hc, hg1, hg2⟩ := own_slice ho (levels_ne f)
    have hl1 := HL.out.1
    have ho' := ho
    rw [← hn] at ho'
    have HC : Hid (wl.cell? ⟨g, mm, none⟩ = some (.string lst)) := by
      show _ = _
      rw [ho'.cellAt mm (by omega), List.getElem?_map, HL.out.2.1]; rfl
    have HG : Hid (g < wl.heap.size) := hg2
    have HNN : Hid (n = mm + 1 ∧ n ≤ cap ∧ mm ≤ 1000000) := ⟨by rw [hn, HL.out.1], hc, by have := levels_len f; have := HS.out; have := HL.out.1; omega⟩
    have hw : IntKind.i64.wrap ((n : Int) - 1) = (mm : Int) := by rw [IntKind.wrap_i64]; have := HNN.out; omega
    have hlt : (mm : Int) < (n : Int) := by have := HNN.out; omega
    replace B : Hid (Below w0.heap.size w0 wl) := B.out.trans (hb.mono B.out.size)
    clear hb ho hn hc hg1 hg2 hl1 ho'
    go_wp2_with fail
    go_must (go_at_call 15)
    refine (fcheck_any f _).mono ?_
    rintro e wk ⟨rfl, hb⟩
    rw [HF.out]
    have c2 : wk.cell? ⟨g, mm, none⟩ = some (.string lst) := by
      rw [hb.cell (by exact HG.out)]; exact HC.out
    replace B : Hid (Below w0.heap.size w0 wk) := B.out.trans (hb.mono B.out.size)
    clear hb
    go_wp2_with fail
    go_ret
    exact ⟨rfl, B.out⟩

set_option maxRecDepth 100000 in
set_option maxHeartbeats 4000000 in
theorem plain_A11F2 (f t : ByteArray) (k : Int) (w : World) (hf : f.size ≤ 5000) (ht : t.size ≤ 5000) (a1 : tcode t = 0) (a2 : rfc t = 0) (a3 : mch t t = true) (hm : mch f t = true) (hF : rfc f = 0) (mm : Nat) (lst : ByteArray) (hL : (levels f).length = mm + 1 ∧ (levels f)[mm]? = some lst) (h35 : ¬ unB lst = [35]) (p : Bool) (e1 : mch (f ++ ⟨#[47, 35]⟩) t = true) (e3 : mch (f ++ ⟨#[47, 43, 47, 35]⟩) t = p) : Calls Try.prog 5 #[.string f, .string t, .string t, .int .i64 k] w fun e w' => e = .returned (.bool true) ∧ Below w.heap.size w w' := by
  have HS : Hid (f.size ≤ 5000 ∧ t.size ≤ 5000) := ⟨hf, ht⟩
  have i1 : ¬ (5000 : Int) < f.size := by omega
  have i2 : ¬ (5000 : Int) < t.size := by omega

  have qe : (t.toList == t.toList) = true := by simp
  have HL : Hid ((levels f).length = mm + 1 ∧ (levels f)[mm]? = some lst ∧ True) := ⟨hL.1, hL.2, trivial⟩
  have HF : Hid (rfc f = 0) := hF
  have ql : (lst.toList == (⟨#[35]⟩ : ByteArray).toList) = false := by rw [eq_one]; exact decide_eq_false h35
  have ql' : (lst.toList == [35]) = false := by rw [eq_one']; exact decide_eq_false h35
  have qp : (p == p) = true := by simp
  clear h35 hL hF
  have p0' : 0 < t.size := (tcode_zero a1).2
  have p0 : (0 : Int) < t.size := by omega
  have HAT : Hid (atB t 0 = (t[0]'p0').toNat) := atB_in t 0 p0'
  obtain ⟨w0, hw0⟩ : ∃ w0, w0 = w := ⟨_, rfl⟩
  rw [← hw0]
  have B : Hid (Below w0.heap.size w0 w0) := Below.refl _ _
  clear hw0 hf ht
  go_enter Try.func5, Try.ntmps5
  go_wp2_with (first
    | (go_at_call 11; refine (known_any _).mono ?_; rintro e w' ⟨rfl, hb⟩; replace B : Hid (Below w0.heap.size w0 w') := B.out.trans (hb.mono B.out.size); clear hb)
    | (go_at_call 14; refine (tcheck_any _ _).mono ?_; rintro e w' ⟨rfl, hb⟩; replace B : Hid (Below w0.heap.size w0 w') := B.out.trans (hb.mono B.out.size); clear hb; rw [a1])
    | (go_at_call 15; refine (fcheck_any _ _).mono ?_; rintro e w' ⟨rfl, hb⟩; replace B : Hid (Below w0.heap.size w0 w') := B.out.trans (hb.mono B.out.size); clear hb; rw [a2])
    | (go_at_call 9; refine (tmatch_any _ _ _).mono ?_; rintro e w' ⟨rfl, hb⟩; replace B : Hid (Below w0.heap.size w0 w') := B.out.trans (hb.mono B.out.size); clear hb; first | rw [hm] | rw [a3]))
  go_must (go_at_call 13)
  refine (tlevels_any f (by have := HS.out; omega) _).mono ?_
  rintro e wl ⟨v, rfl, ho, hb⟩
  obtain ⟨g, n, cap, rfl, hn, hc, hg1, hg2⟩ := own_slice ho (levels_ne f)
  have HO : Hid (wl.ownsRow (World.heap _).size 9 1 (.slice (some ⟨g, 0, none⟩) n cap) (levels f).length ((levels f).map Value.string)) := ho
  have HG1 : Hid (w0.heap.size ≤ g) := Nat.le_trans B.out.size hg1
  replace B : Hid (Below w0.heap.size w0 wl) := B.out.trans (hb.mono B.out.size)
  have HNN : Hid (n = (levels f).length ∧ n ≤ cap ∧ 0 < n ∧ n ≤ 1000001) := ⟨hn, hc, by have := levels_ne f; have := List.length_pos_iff.2 this; omega, by have := levels_len f; have := HS.out; omega⟩
  clear hb ho hn hc hg1 hg2
  go_wp2_with fail
  go_must (go_at_call 16)
  refine (place_any k n _ HNN.out.2.2.1 HNN.out.2.2.2).mono ?_
  rintro e wq ⟨⟨i, rfl, hi⟩, hee⟩
  obtain rfl := hee.symm
  clear hee
  obtain ⟨y, hy⟩ : ∃ y, (levels f)[i]? = some y := ⟨_, List.getElem?_eq_getElem (by have := HNN.out.1; omega)⟩
  have hnn := HNN.out.1
  obtain ⟨c1, f1⟩ : wl.cell? ⟨g, i, none⟩ = some (.string y) ∧ wl.frozen? ⟨g, i, none⟩ = false := by
    have ho := HO.out
    rw [← hnn] at ho
    exact ⟨by rw [ho.cellAt i (by omega), List.getElem?_map, hy]; rfl, ho.frozenAt i⟩
  have hlt : (i : Int) < (n : Int) := by omega
  have hcap := HNN.out.2.1
  have hsp : (split (unB f))[i]? = some (unB y) := by rw [← levels_split, List.getElem?_map, hy]; rfl
  have HSP : Hid ((split (unB f))[i]? = some (unB y)) := hsp
  have HI : Hid (i < n) := hi
  clear hy hnn hsp hi
  by_cases h35 : unB y = [35]
  · have q1 : (y.toList == (⟨#[35]⟩ : ByteArray).toList) = true := by rw [eq_one]; exact decide_eq_true h35
    have q1' : (y.toList == [35]) = true := by rw [eq_one']; exact decide_eq_true h35
    clear h35
    go_wp2_with fail
    go_must (go_at_call 13)
    refine (tlevels_any f (by have := HS.out; omega) _).mono ?_
    rintro e wl ⟨v, rfl, ho, hb⟩
    obtain ⟨g, n, cap, rfl, hn, hc, hg1, hg2⟩ := own_slice ho (levels_ne f)
    have hl1 := HL.out.1
    have ho' := ho
    rw [← hn] at ho'
    have HC : Hid (wl.cell? ⟨g, mm, none⟩ = some (.string lst)) := by
      show _ = _
      rw [ho'.cellAt mm (by omega), List.getElem?_map, HL.out.2.1]; rfl
    have HG : Hid (g < wl.heap.size) := hg2
    have HNN : Hid (n = mm + 1 ∧ n ≤ cap ∧ mm ≤ 1000000) := ⟨by rw [hn, HL.out.1], hc, by have := levels_len f; have := HS.out; have := HL.out.1; omega⟩
    have hw : IntKind.i64.wrap ((n : Int) - 1) = (mm : Int) := by rw [IntKind.wrap_i64]; have := HNN.out; omega
    have hlt : (mm : Int) < (n : Int) := by have := HNN.out; omega
    replace B : Hid (Below w0.heap.size w0 wl) := B.out.trans (hb.mono B.out.size)
    clear hb ho hn hc hg1 hg2 hl1 ho'
    go_wp2_with fail
    go_must (go_at_call 15)
    refine (fcheck_any f _).mono ?_
    rintro e wk ⟨rfl, hb⟩
    rw [HF.out]
    have c2 : wk.cell? ⟨g, mm, none⟩ = some (.string lst) := by
      rw [hb.cell (by exact HG.out)]; exact HC.out
    replace B : Hid (Below w0.heap.size w0 wk) := B.out.trans (hb.mono B.out.size)
    clear hb
    go_wp2_with (go_at_call 9; refine (tmatch_any _ _ _).mono ?_; rintro e w' ⟨rfl, hb⟩; replace B : Hid (Below w0.heap.size w0 w') := B.out.trans (hb.mono B.out.size); clear hb; first | rw [hm] | rw [e1] | rw [e3])
    go_ret
    exact ⟨rfl, B.out⟩
  have q1 : (y.toList == (⟨#[35]⟩ : ByteArray).toList) = false := by rw [eq_one]; exact decide_eq_false h35
  have q1' : (y.toList == [35]) = false := by rw [eq_one']; exact decide_eq_false h35
  have H35 : Hid (¬ unB y = [35]) := h35
  clear h35
  by_cases i0 : i = 0
  · subst i0
    by_cases h36 : atB t 0 = 36
    · have q0 : (((t[0]'p0').toNat : Int) == 36) = true := by rw [← HAT.out, h36]; rfl
      clear h36
      go_wp2_with fail
      go_must (go_at_call 13)
      refine (tlevels_any f (by have := HS.out; omega) _).mono ?_
      rintro e wl ⟨v, rfl, ho, hb⟩
      obtain ⟨g, n, cap, rfl, hn, hc, hg1, hg2⟩ := own_slice ho (levels_ne f)
      have hl1 := HL.out.1
      have ho' := ho
      rw [← hn] at ho'
      have HC : Hid (wl.cell? ⟨g, mm, none⟩ = some (.string lst)) := by
        show _ = _
        rw [ho'.cellAt mm (by omega), List.getElem?_map, HL.out.2.1]; rfl
      have HG : Hid (g < wl.heap.size) := hg2
      have HNN : Hid (n = mm + 1 ∧ n ≤ cap ∧ mm ≤ 1000000) := ⟨by rw [hn, HL.out.1], hc, by have := levels_len f; have := HS.out; have := HL.out.1; omega⟩
      have hw : IntKind.i64.wrap ((n : Int) - 1) = (mm : Int) := by rw [IntKind.wrap_i64]; have := HNN.out; omega
      have hlt : (mm : Int) < (n : Int) := by have := HNN.out; omega
      replace B : Hid (Below w0.heap.size w0 wl) := B.out.trans (hb.mono B.out.size)
      clear hb ho hn hc hg1 hg2 hl1 ho'
      go_wp2_with fail
      go_must (go_at_call 15)
      refine (fcheck_any f _).mono ?_
      rintro e wk ⟨rfl, hb⟩
      rw [HF.out]
      have c2 : wk.cell? ⟨g, mm, none⟩ = some (.string lst) := by
        rw [hb.cell (by exact HG.out)]; exact HC.out
      replace B : Hid (Below w0.heap.size w0 wk) := B.out.trans (hb.mono B.out.size)
      clear hb
      go_wp2_with (go_at_call 9; refine (tmatch_any _ _ _).mono ?_; rintro e w' ⟨rfl, hb⟩; replace B : Hid (Below w0.heap.size w0 w') := B.out.trans (hb.mono B.out.size); clear hb; first | rw [hm] | rw [e1] | rw [e3])
      go_ret
      exact ⟨rfl, B.out⟩
    · have q0 : (((t[0]'p0').toNat : Int) == 36) = false := by rw [← HAT.out, beq_eq_false_iff_ne]; omega
      have HP : Hid (mch (mkB (joinL ((split (unB f)).set 0 [43]))) t = true) := plain_set f t HS.out.1 0 (unB y) hm HSP.out H35.out (fun h => h36 h.2)
      clear h36
      have ho2 := HO.out
      rw [← HNN.out.1] at ho2
      have hst := ho2.stored 0 (.string ⟨#[43]⟩)
      have B2 : Hid (Below w0.heap.size w0 (wl.setCell ⟨g, 0, none⟩ (.string ⟨#[43]⟩))) := below_set B.out HG1.out hst.2 B.out.size
      have R2 : Hid (Row (wl.setCell ⟨g, 0, none⟩ (.string ⟨#[43]⟩)) (.slice (some ⟨g, 0, none⟩) n cap) ((levels f).set 0 ⟨#[43]⟩)) := by
        have h1 := hst.1
        rw [map_set_str] at h1
        have hlen : n = ((levels f).set 0 ⟨#[43]⟩).length := by rw [List.length_set]; exact HNN.out.1
        exact row_of' hlen h1
      have hmp : ((levels f).set 0 ⟨#[43]⟩).map unB = (split (unB f)).set 0 [43] := by rw [List.map_set, levels_split]; rfl
      have HJ : Hid (((levels f).set 0 ⟨#[43]⟩).map unB = (split (unB f)).set 0 [43]) := hmp
      have HJL : Hid ((joinL ((split (unB f)).set 0 [43])).length ≤ 1000001) := by
        have := join_set_len (split (unB f)) 0 [43]
        rw [join_split, un_size] at this
        show _ ≤ _
        have := HS.out.1
        simp at *
        omega
      clear ho2 hst hmp
      go_wp2_with fail
      obtain ⟨ws, hws⟩ : ∃ ws, ws = wl.setCell ⟨g, 0, none⟩ (.string ⟨#[43]⟩) := ⟨_, rfl⟩
      rw [← hws] at B2 R2
      rw [← hws]
      clear hws
      go_must (go_at_call 17)
      refine (join_any _ _ _ R2.out (by intro e; have := congrArg List.length e; simp at this; exact levels_ne f this) (by rw [List.length_set]; have := HNN.out; omega) (by rw [HJ.out]; exact HJL.out)).mono ?_
      rintro e wj ⟨rfl, hb⟩
      rw [HJ.out]
      replace B : Hid (Below w0.heap.size w0 wj) := B2.out.trans (hb.mono B2.out.size)
      clear hb
      go_wp2_with fail
      go_must (go_at_call 9)
      refine (tmatch_any _ _ _).mono ?_
      rintro e wm ⟨rfl, hb⟩
      rw [HP.out]
      replace B : Hid (Below w0.heap.size w0 wm) := B.out.trans (hb.mono B.out.size)
      clear hb
      go_wp2_with fail
      go_must (go_at_call 13)
      refine (tlevels_any f (by have := HS.out; omega) _).mono ?_
      rintro e wl ⟨v, rfl, ho, hb⟩
      obtain ⟨g, n, cap, rfl, hn, hc, hg1, hg2⟩ := own_slice ho (levels_ne f)
      have hl1 := HL.out.1
      have ho' := ho
      rw [← hn] at ho'
      have HC : Hid (wl.cell? ⟨g, mm, none⟩ = some (.string lst)) := by
        show _ = _
        rw [ho'.cellAt mm (by omega), List.getElem?_map, HL.out.2.1]; rfl
      have HG : Hid (g < wl.heap.size) := hg2
      have HNN : Hid (n = mm + 1 ∧ n ≤ cap ∧ mm ≤ 1000000) := ⟨by rw [hn, HL.out.1], hc, by have := levels_len f; have := HS.out; have := HL.out.1; omega⟩
      have hw : IntKind.i64.wrap ((n : Int) - 1) = (mm : Int) := by rw [IntKind.wrap_i64]; have := HNN.out; omega
      have hlt : (mm : Int) < (n : Int) := by have := HNN.out; omega
      replace B : Hid (Below w0.heap.size w0 wl) := B.out.trans (hb.mono B.out.size)
      clear hb ho hn hc hg1 hg2 hl1 ho'
      go_wp2_with fail
      go_must (go_at_call 15)
      refine (fcheck_any f _).mono ?_
      rintro e wk ⟨rfl, hb⟩
      rw [HF.out]
      have c2 : wk.cell? ⟨g, mm, none⟩ = some (.string lst) := by
        rw [hb.cell (by exact HG.out)]; exact HC.out
      replace B : Hid (Below w0.heap.size w0 wk) := B.out.trans (hb.mono B.out.size)
      clear hb
      go_wp2_with (go_at_call 9; refine (tmatch_any _ _ _).mono ?_; rintro e w' ⟨rfl, hb⟩; replace B : Hid (Below w0.heap.size w0 w') := B.out.trans (hb.mono B.out.size); clear hb; first | rw [hm] | rw [e1] | rw [e3])
      go_ret
      exact ⟨rfl, B.out⟩
  · have i0' : ((i : Int) == 0) = false := by rw [beq_eq_false_iff_ne]; omega
    have HP : Hid (mch (mkB (joinL ((split (unB f)).set i [43]))) t = true) := plain_set f t HS.out.1 i (unB y) hm HSP.out H35.out (fun h => i0 h.1)
    clear i0
    have ho2 := HO.out
    rw [← HNN.out.1] at ho2
    have hst := ho2.stored i (.string ⟨#[43]⟩)
    have B2 : Hid (Below w0.heap.size w0 (wl.setCell ⟨g, i, none⟩ (.string ⟨#[43]⟩))) := below_set B.out HG1.out hst.2 B.out.size
    have R2 : Hid (Row (wl.setCell ⟨g, i, none⟩ (.string ⟨#[43]⟩)) (.slice (some ⟨g, 0, none⟩) n cap) ((levels f).set i ⟨#[43]⟩)) := by
      have h1 := hst.1
      rw [map_set_str] at h1
      have hlen : n = ((levels f).set i ⟨#[43]⟩).length := by rw [List.length_set]; exact HNN.out.1
      exact row_of' hlen h1
    have hmp : ((levels f).set i ⟨#[43]⟩).map unB = (split (unB f)).set i [43] := by rw [List.map_set, levels_split]; rfl
    have HJ : Hid (((levels f).set i ⟨#[43]⟩).map unB = (split (unB f)).set i [43]) := hmp
    have HJL : Hid ((joinL ((split (unB f)).set i [43])).length ≤ 1000001) := by
      have := join_set_len (split (unB f)) i [43]
      rw [join_split, un_size] at this
      show _ ≤ _
      have := HS.out.1
      simp at *
      omega
    clear ho2 hst hmp
    go_wp2_with fail
    obtain ⟨ws, hws⟩ : ∃ ws, ws = wl.setCell ⟨g, i, none⟩ (.string ⟨#[43]⟩) := ⟨_, rfl⟩
    rw [← hws] at B2 R2
    rw [← hws]
    clear hws
    go_must (go_at_call 17)
    refine (join_any _ _ _ R2.out (by intro e; have := congrArg List.length e; simp at this; exact levels_ne f this) (by rw [List.length_set]; have := HNN.out; omega) (by rw [HJ.out]; exact HJL.out)).mono ?_
    rintro e wj ⟨rfl, hb⟩
    rw [HJ.out]
    replace B : Hid (Below w0.heap.size w0 wj) := B2.out.trans (hb.mono B2.out.size)
    clear hb
    go_wp2_with fail
    go_must (go_at_call 9)
    refine (tmatch_any _ _ _).mono ?_
    rintro e wm ⟨rfl, hb⟩
    rw [HP.out]
    replace B : Hid (Below w0.heap.size w0 wm) := B.out.trans (hb.mono B.out.size)
    clear hb
    go_wp2_with fail
    go_must (go_at_call 13)
    refine (tlevels_any f (by have := HS.out; omega) _).mono ?_
    rintro e wl ⟨v, rfl, ho, hb⟩
    obtain ⟨g, n, cap, rfl, hn, hc, hg1, hg2⟩ := own_slice ho (levels_ne f)
    have hl1 := HL.out.1
    have ho' := ho
    rw [← hn] at ho'
    have HC : Hid (wl.cell? ⟨g, mm, none⟩ = some (.string lst)) := by
      show _ = _
      rw [ho'.cellAt mm (by omega), List.getElem?_map, HL.out.2.1]; rfl
    have HG : Hid (g < wl.heap.size) := hg2
    have HNN : Hid (n = mm + 1 ∧ n ≤ cap ∧ mm ≤ 1000000) := ⟨by rw [hn, HL.out.1], hc, by have := levels_len f; have := HS.out; have := HL.out.1; omega⟩
    have hw : IntKind.i64.wrap ((n : Int) - 1) = (mm : Int) := by rw [IntKind.wrap_i64]; have := HNN.out; omega
    have hlt : (mm : Int) < (n : Int) := by have := HNN.out; omega
    replace B : Hid (Below w0.heap.size w0 wl) := B.out.trans (hb.mono B.out.size)
    clear hb ho hn hc hg1 hg2 hl1 ho'
    go_wp2_with fail
    go_must (go_at_call 15)
    refine (fcheck_any f _).mono ?_
    rintro e wk ⟨rfl, hb⟩
    rw [HF.out]
    have c2 : wk.cell? ⟨g, mm, none⟩ = some (.string lst) := by
      rw [hb.cell (by exact HG.out)]; exact HC.out
    replace B : Hid (Below w0.heap.size w0 wk) := B.out.trans (hb.mono B.out.size)
    clear hb
    go_wp2_with (go_at_call 9; refine (tmatch_any _ _ _).mono ?_; rintro e w' ⟨rfl, hb⟩; replace B : Hid (Below w0.heap.size w0 w') := B.out.trans (hb.mono B.out.size); clear hb; first | rw [hm] | rw [e1] | rw [e3])
    go_ret
    exact ⟨rfl, B.out⟩

set_option maxRecDepth 100000 in
set_option maxHeartbeats 4000000 in
theorem plain_A20F0 (f t z : ByteArray) (k : Int) (w : World) (hf : f.size ≤ 5000) (ht : t.size ≤ 5000) (hz : z.size ≤ 5000) (a1 : tcode t = 0) (a2 : rfc t = 0) (a3 : mch t t = true) (a4 : mch t z = false) (qe : (t.toList == z.toList) = false) (hm : mch f t = false) (hF : (rfc f != 0) = true) : Calls Try.prog 5 #[.string f, .string t, .string z, .int .i64 k] w fun e w' => e = .returned (.bool true) ∧ Below w.heap.size w w' := by
  have HS : Hid (f.size ≤ 5000 ∧ t.size ≤ 5000) := ⟨hf, ht⟩
  have i1 : ¬ (5000 : Int) < f.size := by omega
  have i2 : ¬ (5000 : Int) < t.size := by omega
  have i3 : ¬ (5000 : Int) < z.size := by omega
  obtain ⟨w0, hw0⟩ : ∃ w0, w0 = w := ⟨_, rfl⟩
  rw [← hw0]
  have B : Hid (Below w0.heap.size w0 w0) := Below.refl _ _
  clear hw0 hf ht hz
  go_enter Try.func5, Try.ntmps5
  go_wp2_with (first
    | (go_at_call 11; refine (known_any _).mono ?_; rintro e w' ⟨rfl, hb⟩; replace B : Hid (Below w0.heap.size w0 w') := B.out.trans (hb.mono B.out.size); clear hb)
    | (go_at_call 14; refine (tcheck_any _ _).mono ?_; rintro e w' ⟨rfl, hb⟩; replace B : Hid (Below w0.heap.size w0 w') := B.out.trans (hb.mono B.out.size); clear hb; rw [a1])
    | (go_at_call 15; refine (fcheck_any _ _).mono ?_; rintro e w' ⟨rfl, hb⟩; replace B : Hid (Below w0.heap.size w0 w') := B.out.trans (hb.mono B.out.size); clear hb; rw [a2])
    | (go_at_call 9; refine (tmatch_any _ _ _).mono ?_; rintro e w' ⟨rfl, hb⟩; replace B : Hid (Below w0.heap.size w0 w') := B.out.trans (hb.mono B.out.size); clear hb; first | rw [hm] | rw [a3] | rw [a4]))
  go_must (go_at_call 13)
  refine (tlevels_any f (by have := HS.out; omega) _).mono ?_
  rintro e wl ⟨v, rfl, ho, hb⟩
  obtain ⟨g, n, cap, rfl, hn, hc, hg1, hg2⟩ := own_slice ho (levels_ne f)
  replace B : Hid (Below w0.heap.size w0 wl) := B.out.trans (hb.mono B.out.size)
  clear hb ho hn hc hg1 hg2
  go_wp2_with fail
  go_must (go_at_call 15)
  refine (fcheck_any f _).mono ?_
  rintro e wk ⟨rfl, hb⟩
  replace B : Hid (Below w0.heap.size w0 wk) := B.out.trans (hb.mono B.out.size)
  clear hb
  go_wp2_with fail
  go_ret
  exact ⟨rfl, B.out⟩

set_option maxRecDepth 100000 in
set_option maxHeartbeats 4000000 in
theorem plain_A20F1 (f t z : ByteArray) (k : Int) (w : World) (hf : f.size ≤ 5000) (ht : t.size ≤ 5000) (hz : z.size ≤ 5000) (a1 : tcode t = 0) (a2 : rfc t = 0) (a3 : mch t t = true) (a4 : mch t z = false) (qe : (t.toList == z.toList) = false) (hm : mch f t = false) (hF : rfc f = 0) (mm : Nat) (lst : ByteArray) (hL : (levels f).length = mm + 1 ∧ (levels f)[mm]? = some lst) (h35 : unB lst = [35]) : Calls Try.prog 5 #[.string f, .string t, .string z, .int .i64 k] w fun e w' => e = .returned (.bool true) ∧ Below w.heap.size w w' := by
  have HS : Hid (f.size ≤ 5000 ∧ t.size ≤ 5000) := ⟨hf, ht⟩
  have i1 : ¬ (5000 : Int) < f.size := by omega
  have i2 : ¬ (5000 : Int) < t.size := by omega
  have i3 : ¬ (5000 : Int) < z.size := by omega
  have HL : Hid ((levels f).length = mm + 1 ∧ (levels f)[mm]? = some lst ∧ True) := ⟨hL.1, hL.2, trivial⟩
  have HF : Hid (rfc f = 0) := hF
  have ql : (lst.toList == (⟨#[35]⟩ : ByteArray).toList) = true := by rw [eq_one]; exact decide_eq_true h35
  have ql' : (lst.toList == [35]) = true := by rw [eq_one']; exact decide_eq_true h35
  clear h35 hL hF
  obtain ⟨w0, hw0⟩ : ∃ w0, w0 = w := ⟨_, rfl⟩
  rw [← hw0]
  have B : Hid (Below w0.heap.size w0 w0) := Below.refl _ _
  clear hw0 hf ht hz
  go_enter Try.func5, Try.ntmps5
  go_wp2_with (first
    | (go_at_call 11; refine (known_any _).mono ?_; rintro e w' ⟨rfl, hb⟩; replace B : Hid (Below w0.heap.size w0 w') := B.out.trans (hb.mono B.out.size); clear hb)
    | (go_at_call 14; refine (tcheck_any _ _).mono ?_; rintro e w' ⟨rfl, hb⟩; replace B : Hid (Below w0.heap.size w0 w') := B.out.trans (hb.mono B.out.size); clear hb; rw [a1])
    | (go_at_call 15; refine (fcheck_any _ _).mono ?_; rintro e w' ⟨rfl, hb⟩; replace B : Hid (Below w0.heap.size w0 w') := B.out.trans (hb.mono B.out.size); clear hb; rw [a2])
    | (go_at_call 9; refine (tmatch_any _ _ _).mono ?_; rintro e w' ⟨rfl, hb⟩; replace B : Hid (Below w0.heap.size w0 w') := B.out.trans (hb.mono B.out.size); clear hb; first | rw [hm] | rw [a3] | rw [a4]))
  go_must (go_at_call 13)
  refine (tlevels_any f (by have := HS.out; omega) _).mono ?_
  rintro e wl ⟨v, rfl, ho, hb⟩
  obtain ⟨g, n, cap, rfl, hn, hc, hg1, hg2⟩ := own_slice ho (levels_ne f)
  have hl1 := HL.out.1
  have ho' := ho
  rw [← hn] at ho'
  have HC : Hid (wl.cell? ⟨g, mm, none⟩ = some (.string lst)) := by
    show _ = _
    rw [ho'.cellAt mm (by omega), List.getElem?_map, HL.out.2.1]; rfl
  have HG : Hid (g < wl.heap.size) := hg2
  have HNN : Hid (n = mm + 1 ∧ n ≤ cap ∧ mm ≤ 1000000) := ⟨by rw [hn, HL.out.1], hc, by have := levels_len f; have := HS.out; have := HL.out.1; omega⟩
  have hw : IntKind.i64.wrap ((n : Int) - 1) = (mm : Int) := by rw [IntKind.wrap_i64]; have := HNN.out; omega
  have hlt : (mm : Int) < (n : Int) := by have := HNN.out; omega
  replace B : Hid (Below w0.heap.size w0 wl) := B.out.trans (hb.mono B.out.size)
  clear hb ho hn hc hg1 hg2 hl1 ho'
  go_wp2_with fail
  go_must (go_at_call 15)
  refine (fcheck_any f _).mono ?_
  rintro e wk ⟨rfl, hb⟩
  rw [HF.out]
  have c2 : wk.cell? ⟨g, mm, none⟩ = some (.string lst) := by
    rw [hb.cell (by exact HG.out)]; exact HC.out
  replace B : Hid (Below w0.heap.size w0 wk) := B.out.trans (hb.mono B.out.size)
  clear hb
  go_wp2_with fail
  go_ret
  exact ⟨rfl, B.out⟩

set_option maxRecDepth 100000 in
set_option maxHeartbeats 4000000 in
theorem plain_A20F2 (f t z : ByteArray) (k : Int) (w : World) (hf : f.size ≤ 5000) (ht : t.size ≤ 5000) (hz : z.size ≤ 5000) (a1 : tcode t = 0) (a2 : rfc t = 0) (a3 : mch t t = true) (a4 : mch t z = false) (qe : (t.toList == z.toList) = false) (hm : mch f t = false) (hF : rfc f = 0) (mm : Nat) (lst : ByteArray) (hL : (levels f).length = mm + 1 ∧ (levels f)[mm]? = some lst) (h35 : ¬ unB lst = [35]) (p : Bool) (e1 : mch (f ++ ⟨#[47, 35]⟩) t = p) (e3 : mch (f ++ ⟨#[47, 43, 47, 35]⟩) t = p) : Calls Try.prog 5 #[.string f, .string t, .string z, .int .i64 k] w fun e w' => e = .returned (.bool true) ∧ Below w.heap.size w w' := by
  have HS : Hid (f.size ≤ 5000 ∧ t.size ≤ 5000) := ⟨hf, ht⟩
  have i1 : ¬ (5000 : Int) < f.size := by omega
  have i2 : ¬ (5000 : Int) < t.size := by omega
  have i3 : ¬ (5000 : Int) < z.size := by omega
  have HL : Hid ((levels f).length = mm + 1 ∧ (levels f)[mm]? = some lst ∧ True) := ⟨hL.1, hL.2, trivial⟩
  have HF : Hid (rfc f = 0) := hF
  have ql : (lst.toList == (⟨#[35]⟩ : ByteArray).toList) = false := by rw [eq_one]; exact decide_eq_false h35
  have ql' : (lst.toList == [35]) = false := by rw [eq_one']; exact decide_eq_false h35
  have qp : (p == p) = true := by simp
  clear h35 hL hF
  obtain ⟨w0, hw0⟩ : ∃ w0, w0 = w := ⟨_, rfl⟩
  rw [← hw0]
  have B : Hid (Below w0.heap.size w0 w0) := Below.refl _ _
  clear hw0 hf ht hz
  go_enter Try.func5, Try.ntmps5
  go_wp2_with (first
    | (go_at_call 11; refine (known_any _).mono ?_; rintro e w' ⟨rfl, hb⟩; replace B : Hid (Below w0.heap.size w0 w') := B.out.trans (hb.mono B.out.size); clear hb)
    | (go_at_call 14; refine (tcheck_any _ _).mono ?_; rintro e w' ⟨rfl, hb⟩; replace B : Hid (Below w0.heap.size w0 w') := B.out.trans (hb.mono B.out.size); clear hb; rw [a1])
    | (go_at_call 15; refine (fcheck_any _ _).mono ?_; rintro e w' ⟨rfl, hb⟩; replace B : Hid (Below w0.heap.size w0 w') := B.out.trans (hb.mono B.out.size); clear hb; rw [a2])
    | (go_at_call 9; refine (tmatch_any _ _ _).mono ?_; rintro e w' ⟨rfl, hb⟩; replace B : Hid (Below w0.heap.size w0 w') := B.out.trans (hb.mono B.out.size); clear hb; first | rw [hm] | rw [a3] | rw [a4]))
  go_must (go_at_call 13)
  refine (tlevels_any f (by have := HS.out; omega) _).mono ?_
  rintro e wl ⟨v, rfl, ho, hb⟩
  obtain ⟨g, n, cap, rfl, hn, hc, hg1, hg2⟩ := own_slice ho (levels_ne f)
  have hl1 := HL.out.1
  have ho' := ho
  rw [← hn] at ho'
  have HC : Hid (wl.cell? ⟨g, mm, none⟩ = some (.string lst)) := by
    show _ = _
    rw [ho'.cellAt mm (by omega), List.getElem?_map, HL.out.2.1]; rfl
  have HG : Hid (g < wl.heap.size) := hg2
  have HNN : Hid (n = mm + 1 ∧ n ≤ cap ∧ mm ≤ 1000000) := ⟨by rw [hn, HL.out.1], hc, by have := levels_len f; have := HS.out; have := HL.out.1; omega⟩
  have hw : IntKind.i64.wrap ((n : Int) - 1) = (mm : Int) := by rw [IntKind.wrap_i64]; have := HNN.out; omega
  have hlt : (mm : Int) < (n : Int) := by have := HNN.out; omega
  replace B : Hid (Below w0.heap.size w0 wl) := B.out.trans (hb.mono B.out.size)
  clear hb ho hn hc hg1 hg2 hl1 ho'
  go_wp2_with fail
  go_must (go_at_call 15)
  refine (fcheck_any f _).mono ?_
  rintro e wk ⟨rfl, hb⟩
  rw [HF.out]
  have c2 : wk.cell? ⟨g, mm, none⟩ = some (.string lst) := by
    rw [hb.cell (by exact HG.out)]; exact HC.out
  replace B : Hid (Below w0.heap.size w0 wk) := B.out.trans (hb.mono B.out.size)
  clear hb
  go_wp2_with (go_at_call 9; refine (tmatch_any _ _ _).mono ?_; rintro e w' ⟨rfl, hb⟩; replace B : Hid (Below w0.heap.size w0 w') := B.out.trans (hb.mono B.out.size); clear hb; first | rw [hm] | rw [e1] | rw [e3])
  go_ret
  exact ⟨rfl, B.out⟩

set_option maxRecDepth 100000 in
set_option maxHeartbeats 4000000 in
theorem plain_A21F1 (f t z : ByteArray) (k : Int) (w : World) (hf : f.size ≤ 5000) (ht : t.size ≤ 5000) (hz : z.size ≤ 5000) (a1 : tcode t = 0) (a2 : rfc t = 0) (a3 : mch t t = true) (a4 : mch t z = false) (qe : (t.toList == z.toList) = false) (hm : mch f t = true) (hF : rfc f = 0) (mm : Nat) (lst : ByteArray) (hL : (levels f).length = mm + 1 ∧ (levels f)[mm]? = some lst) (h35 : unB lst = [35]) : Calls Try.prog 5 #[.string f, .string t, .string z, .int .i64 k] w fun e w' => e = .returned (.bool true) ∧ Below w.heap.size w w' := by
  have HS : Hid (f.size ≤ 5000 ∧ t.size ≤ 5000) := ⟨hf, ht⟩
  have i1 : ¬ (5000 : Int) < f.size := by omega
  have i2 : ¬ (5000 : Int) < t.size := by omega
  have i3 : ¬ (5000 : Int) < z.size := by omega
  have HL : Hid ((levels f).length = mm + 1 ∧ (levels f)[mm]? = some lst ∧ True) := ⟨hL.1, hL.2, trivial⟩
  have HF : Hid (rfc f = 0) := hF
  have ql : (lst.toList == (⟨#[35]⟩ : ByteArray).toList) = true := by rw [eq_one]; exact decide_eq_true h35
  have ql' : (lst.toList == [35]) = true := by rw [eq_one']; exact decide_eq_true h35
  clear h35 hL hF
  have p0' : 0 < t.size := (tcode_zero a1).2
  have p0 : (0 : Int) < t.size := by omega
  have HAT : Hid (atB t 0 = (t[0]'p0').toNat) := atB_in t 0 p0'
  obtain ⟨w0, hw0⟩ : ∃ w0, w0 = w := ⟨_, rfl⟩
  rw [← hw0]
  have B : Hid (Below w0.heap.size w0 w0) := Below.refl _ _
  clear hw0 hf ht hz
  go_enter Try.func5, Try.ntmps5
  go_wp2_with (first
    | (go_at_call 11; refine (known_any _).mono ?_; rintro e w' ⟨rfl, hb⟩; replace B : Hid (Below w0.heap.size w0 w') := B.out.trans (hb.mono B.out.size); clear hb)
    | (go_at_call 14; refine (tcheck_any _ _).mono ?_; rintro e w' ⟨rfl, hb⟩; replace B : Hid (Below w0.heap.size w0 w') := B.out.trans (hb.mono B.out.size); clear hb; rw [a1])
    | (go_at_call 15; refine (fcheck_any _ _).mono ?_; rintro e w' ⟨rfl, hb⟩; replace B : Hid (Below w0.heap.size w0 w') := B.out.trans (hb.mono B.out.size); clear hb; rw [a2])
    | (go_at_call 9; refine (tmatch_any _ _ _).mono ?_; rintro e w' ⟨rfl, hb⟩; replace B : Hid (Below w0.heap.size w0 w') := B.out.trans (hb.mono B.out.size); clear hb; first | rw [hm] | rw [a3] | rw [a4]))
  go_must (go_at_call 13)
  refine (tlevels_any f (by have := HS.out; omega) _).mono ?_
  rintro e wl ⟨v, rfl, ho, hb⟩
  obtain ⟨g, n, cap, rfl, hn, hc, hg1, hg2⟩ := own_slice ho (levels_ne f)
  have HO : Hid (wl.ownsRow (World.heap _).size 9 1 (.slice (some ⟨g, 0, none⟩) n cap) (levels f).length ((levels f).map Value.string)) := ho
  have HG1 : Hid (w0.heap.size ≤ g) := Nat.le_trans B.out.size hg1
  replace B : Hid (Below w0.heap.size w0 wl) := B.out.trans (hb.mono B.out.size)
  have HNN : Hid (n = (levels f).length ∧ n ≤ cap ∧ 0 < n ∧ n ≤ 1000001) := ⟨hn, hc, by have := levels_ne f; have := List.length_pos_iff.2 this; omega, by have := levels_len f; have := HS.out; omega⟩
  clear hb ho hn hc hg1 hg2
  go_wp2_with fail
  go_must (go_at_call 16)
  refine (place_any k n _ HNN.out.2.2.1 HNN.out.2.2.2).mono ?_
  rintro e wq ⟨⟨i, rfl, hi⟩, hee⟩
  obtain rfl := hee.symm
  clear hee
  obtain ⟨y, hy⟩ : ∃ y, (levels f)[i]? = some y := ⟨_, List.getElem?_eq_getElem (by have := HNN.out.1; omega)⟩
  have hnn := HNN.out.1
  obtain ⟨c1, f1⟩ : wl.cell? ⟨g, i, none⟩ = some (.string y) ∧ wl.frozen? ⟨g, i, none⟩ = false := by
    have ho := HO.out
    rw [← hnn] at ho
    exact ⟨by rw [ho.cellAt i (by omega), List.getElem?_map, hy]; rfl, ho.frozenAt i⟩
  have hlt : (i : Int) < (n : Int) := by omega
  have hcap := HNN.out.2.1
  have hsp : (split (unB f))[i]? = some (unB y) := by rw [← levels_split, List.getElem?_map, hy]; rfl
  have HSP : Hid ((split (unB f))[i]? = some (unB y)) := hsp
  have HI : Hid (i < n) := hi
  clear hy hnn hsp hi
  by_cases h35 : unB y = [35]
  · have q1 : (y.toList == (⟨#[35]⟩ : ByteArray).toList) = true := by rw [eq_one]; exact decide_eq_true h35
    have q1' : (y.toList == [35]) = true := by rw [eq_one']; exact decide_eq_true h35
    clear h35
    go_wp2_with fail
    go_must (go_at_call 13)
    refine (tlevels_any f (by have := HS.out; omega) _).mono ?_
    rintro e wl ⟨v, rfl, ho, hb⟩
    obtain ⟨g, n, cap, rfl, hn, hc, hg1, hg2⟩ := own_slice ho (levels_ne f)
    have hl1 := HL.out.1
    have ho' := ho
    rw [← hn] at ho'
    have HC : Hid (wl.cell? ⟨g, mm, none⟩ = some (.string lst)) := by
      show _ = _
      rw [ho'.cellAt mm (by omega), List.getElem?_map, HL.out.2.1]; rfl
    have HG : Hid (g < wl.heap.size) := hg2
    have HNN : Hid (n = mm + 1 ∧ n ≤ cap ∧ mm ≤ 1000000) := ⟨by rw [hn, HL.out.1], hc, by have := levels_len f; have := HS.out; have := HL.out.1; omega⟩
    have hw : IntKind.i64.wrap ((n : Int) - 1) = (mm : Int) := by rw [IntKind.wrap_i64]; have := HNN.out; omega
    have hlt : (mm : Int) < (n : Int) := by have := HNN.out; omega
    replace B : Hid (Below w0.heap.size w0 wl) := B.out.trans (hb.mono B.out.size)
    clear hb ho hn hc hg1 hg2 hl1 ho'
    go_wp2_with fail
    go_must (go_at_call 15)
    refine (fcheck_any f _).mono ?_
    rintro e wk ⟨rfl, hb⟩
    rw [HF.out]
    have c2 : wk.cell? ⟨g, mm, none⟩ = some (.string lst) := by
      rw [hb.cell (by exact HG.out)]; exact HC.out
    replace B : Hid (Below w0.heap.size w0 wk) := B.out.trans (hb.mono B.out.size)
    clear hb
    go_wp2_with fail
    go_ret
    exact ⟨rfl, B.out⟩
  have q1 : (y.toList == (⟨#[35]⟩ : ByteArray).toList) = false := by rw [eq_one]; exact decide_eq_false h35
  have q1' : (y.toList == [35]) = false := by rw [eq_one']; exact decide_eq_false h35
  have H35 : Hid (¬ unB y = [35]) := h35
  clear h35
  by_cases i0 : i = 0
  · subst i0
    by_cases h36 : atB t 0 = 36
    · have q0 : (((t[0]'p0').toNat : Int) == 36) = true := by rw [← HAT.out, h36]; rfl
      clear h36
      go_wp2_with fail
      go_must (go_at_call 13)
      refine (tlevels_any f (by have := HS.out; omega) _).mono ?_
      rintro e wl ⟨v, rfl, ho, hb⟩
      obtain ⟨g, n, cap, rfl, hn, hc, hg1, hg2⟩ := own_slice ho (levels_ne f)
      have hl1 := HL.out.1
      have ho' := ho
      rw [← hn] at ho'
      have HC : Hid (wl.cell? ⟨g, mm, none⟩ = some (.string lst)) := by
        show _ = _
        rw [ho'.cellAt mm (by omega), List.getElem?_map, HL.out.2.1]; rfl
      have HG : Hid (g < wl.heap.size) := hg2
      have HNN : Hid (n = mm + 1 ∧ n ≤ cap ∧ mm ≤ 1000000) := ⟨by rw [hn, HL.out.1], hc, by have := levels_len f; have := HS.out; have := HL.out.1; omega⟩
      have hw : IntKind.i64.wrap ((n : Int) - 1) = (mm : Int) := by rw [IntKind.wrap_i64]; have := HNN.out; omega
      have hlt : (mm : Int) < (n : Int) := by have := HNN.out; omega
      replace B : Hid (Below w0.heap.size w0 wl) := B.out.trans (hb.mono B.out.size)
      clear hb ho hn hc hg1 hg2 hl1 ho'
      go_wp2_with fail
      go_must (go_at_call 15)
      refine (fcheck_any f _).mono ?_
      rintro e wk ⟨rfl, hb⟩
      rw [HF.out]
      have c2 : wk.cell? ⟨g, mm, none⟩ = some (.string lst) := by
        rw [hb.cell (by exact HG.out)]; exact HC.out
      replace B : Hid (Below w0.heap.size w0 wk) := B.out.trans (hb.mono B.out.size)
      clear hb
      go_wp2_with fail
      go_ret
      exact ⟨rfl, B.out⟩
    · have q0 : (((t[0]'p0').toNat : Int) == 36) = false := by rw [← HAT.out, beq_eq_false_iff_ne]; omega
      have HP : Hid (mch (mkB (joinL ((split (unB f)).set 0 [43]))) t = true) := plain_set f t HS.out.1 0 (unB y) hm HSP.out H35.out (fun h => h36 h.2)
      clear h36
      have ho2 := HO.out
      rw [← HNN.out.1] at ho2
      have hst := ho2.stored 0 (.string ⟨#[43]⟩)
      have B2 : Hid (Below w0.heap.size w0 (wl.setCell ⟨g, 0, none⟩ (.string ⟨#[43]⟩))) := below_set B.out HG1.out hst.2 B.out.size
      have R2 : Hid (Row (wl.setCell ⟨g, 0, none⟩ (.string ⟨#[43]⟩)) (.slice (some ⟨g, 0, none⟩) n cap) ((levels f).set 0 ⟨#[43]⟩)) := by
        have h1 := hst.1
        rw [map_set_str] at h1
        have hlen : n = ((levels f).set 0 ⟨#[43]⟩).length := by rw [List.length_set]; exact HNN.out.1
        exact row_of' hlen h1
      have hmp : ((levels f).set 0 ⟨#[43]⟩).map unB = (split (unB f)).set 0 [43] := by rw [List.map_set, levels_split]; rfl
      have HJ : Hid (((levels f).set 0 ⟨#[43]⟩).map unB = (split (unB f)).set 0 [43]) := hmp
      have HJL : Hid ((joinL ((split (unB f)).set 0 [43])).length ≤ 1000001) := by
        have := join_set_len (split (unB f)) 0 [43]
        rw [join_split, un_size] at this
        show _ ≤ _
        have := HS.out.1
        simp at *
        omega
      clear ho2 hst hmp
      go_wp2_with fail
      obtain ⟨ws, hws⟩ : ∃ ws, ws = wl.setCell ⟨g, 0, none⟩ (.string ⟨#[43]⟩) := ⟨_, rfl⟩
      rw [← hws] at B2 R2
      rw [← hws]
      clear hws
      go_must (go_at_call 17)
      refine (join_any _ _ _ R2.out (by intro e; have := congrArg List.length e; simp at this; exact levels_ne f this) (by rw [List.length_set]; have := HNN.out; omega) (by rw [HJ.out]; exact HJL.out)).mono ?_
      rintro e wj ⟨rfl, hb⟩
      rw [HJ.out]
      replace B : Hid (Below w0.heap.size w0 wj) := B2.out.trans (hb.mono B2.out.size)
      clear hb
      go_wp2_with fail
      go_must (go_at_call 9)
      refine (tmatch_any _ _ _).mono ?_
      rintro e wm ⟨rfl, hb⟩
      rw [HP.out]
      replace B : Hid (Below w0.heap.size w0 wm) := B.out.trans (hb.mono B.out.size)
      clear hb
      go_wp2_with fail
      go_must (go_at_call 13)
      refine (tlevels_any f (by have := HS.out; omega) _).mono ?_
      rintro e wl ⟨v, rfl, ho, hb⟩
      obtain ⟨g, n, cap, rfl, hn, hc, hg1, hg2⟩ := own_slice ho (levels_ne f)
      have hl1 := HL.out.1
      have ho' := ho
      rw [← hn] at ho'
      have HC : Hid (wl.cell? ⟨g, mm, none⟩ = some (.string lst)) := by
        show _ = _
        rw [ho'.cellAt mm (by omega), List.getElem?_map, HL.out.2.1]; rfl
      have HG : Hid (g < wl.heap.size) := hg2
      have HNN : Hid (n = mm + 1 ∧ n ≤ cap ∧ mm ≤ 1000000) := ⟨by rw [hn, HL.out.1], hc, by have := levels_len f; have := HS.out; have := HL.out.1; omega⟩
      have hw : IntKind.i64.wrap ((n : Int) - 1) = (mm : Int) := by rw [IntKind.wrap_i64]; have := HNN.out; omega
      have hlt : (mm : Int) < (n : Int) := by have := HNN.out; omega
      replace B : Hid (Below w0.heap.size w0 wl) := B.out.trans (hb.mono B.out.size)
      clear hb ho hn hc hg1 hg2 hl1 ho'
      go_wp2_with fail
      go_must (go_at_call 15)
      refine (fcheck_any f _).mono ?_
      rintro e wk ⟨rfl, hb⟩
      rw [HF.out]
      have c2 : wk.cell? ⟨g, mm, none⟩ = some (.string lst) := by
        rw [hb.cell (by exact HG.out)]; exact HC.out
      replace B : Hid (Below w0.heap.size w0 wk) := B.out.trans (hb.mono B.out.size)
      clear hb
      go_wp2_with fail
      go_ret
      exact ⟨rfl, B.out⟩
  · have i0' : ((i : Int) == 0) = false := by rw [beq_eq_false_iff_ne]; omega
    have HP : Hid (mch (mkB (joinL ((split (unB f)).set i [43]))) t = true) := plain_set f t HS.out.1 i (unB y) hm HSP.out H35.out (fun h => i0 h.1)
    clear i0
    have ho2 := HO.out
    rw [← HNN.out.1] at ho2
    have hst := ho2.stored i (.string ⟨#[43]⟩)
    have B2 : Hid (Below w0.heap.size w0 (wl.setCell ⟨g, i, none⟩ (.string ⟨#[43]⟩))) := below_set B.out HG1.out hst.2 B.out.size
    have R2 : Hid (Row (wl.setCell ⟨g, i, none⟩ (.string ⟨#[43]⟩)) (.slice (some ⟨g, 0, none⟩) n cap) ((levels f).set i ⟨#[43]⟩)) := by
      have h1 := hst.1
      rw [map_set_str] at h1
      have hlen : n = ((levels f).set i ⟨#[43]⟩).length := by rw [List.length_set]; exact HNN.out.1
      exact row_of' hlen h1
    have hmp : ((levels f).set i ⟨#[43]⟩).map unB = (split (unB f)).set i [43] := by rw [List.map_set, levels_split]; rfl
    have HJ : Hid (((levels f).set i ⟨#[43]⟩).map unB = (split (unB f)).set i [43]) := hmp
    have HJL : Hid ((joinL ((split (unB f)).set i [43])).length ≤ 1000001) := by
      have := join_set_len (split (unB f)) i [43]
      rw [join_split, un_size] at this
      show _ ≤ _
      have := HS.out.1
      simp at *
      omega
    clear ho2 hst hmp
    go_wp2_with fail
    obtain ⟨ws, hws⟩ : ∃ ws, ws = wl.setCell ⟨g, i, none⟩ (.string ⟨#[43]⟩) := ⟨_, rfl⟩
    rw [← hws] at B2 R2
    rw [← hws]
    clear hws
    go_must (go_at_call 17)
    refine (join_any _ _ _ R2.out (by intro e; have := congrArg List.length e; simp at this; exact levels_ne f this) (by rw [List.length_set]; have := HNN.out; omega) (by rw [HJ.out]; exact HJL.out)).mono ?_
    rintro e wj ⟨rfl, hb⟩
    rw [HJ.out]
    replace B : Hid (Below w0.heap.size w0 wj) := B2.out.trans (hb.mono B2.out.size)
    clear hb
    go_wp2_with fail
    go_must (go_at_call 9)
    refine (tmatch_any _ _ _).mono ?_
    rintro e wm ⟨rfl, hb⟩
    rw [HP.out]
    replace B : Hid (Below w0.heap.size w0 wm) := B.out.trans (hb.mono B.out.size)
    clear hb
    go_wp2_with fail
    go_must (go_at_call 13)
    refine (tlevels_any f (by have := HS.out; omega) _).mono ?_
    rintro e wl ⟨v, rfl, ho, hb⟩
    obtain ⟨g, n, cap, rfl, hn, hc, hg1, hg2⟩ := own_slice ho (levels_ne f)
    have hl1 := HL.out.1
    have ho' := ho
    rw [← hn] at ho'
    have HC : Hid (wl.cell? ⟨g, mm, none⟩ = some (.string lst)) := by
      show _ = _
      rw [ho'.cellAt mm (by omega), List.getElem?_map, HL.out.2.1]; rfl
    have HG : Hid (g < wl.heap.size) := hg2
    have HNN : Hid (n = mm + 1 ∧ n ≤ cap ∧ mm ≤ 1000000) := ⟨by rw [hn, HL.out.1], hc, by have := levels_len f; have := HS.out; have := HL.out.1; omega⟩
    have hw : IntKind.i64.wrap ((n : Int) - 1) = (mm : Int) := by rw [IntKind.wrap_i64]; have := HNN.out; omega
    have hlt : (mm : Int) < (n : Int) := by have := HNN.out; omega
    replace B : Hid (Below w0.heap.size w0 wl) := B.out.trans (hb.mono B.out.size)
    clear hb ho hn hc hg1 hg2 hl1 ho'
    go_wp2_with fail
    go_must (go_at_call 15)
    refine (fcheck_any f _).mono ?_
    rintro e wk ⟨rfl, hb⟩
    rw [HF.out]
    have c2 : wk.cell? ⟨g, mm, none⟩ = some (.string lst) := by
      rw [hb.cell (by exact HG.out)]; exact HC.out
    replace B : Hid (Below w0.heap.size w0 wk) := B.out.trans (hb.mono B.out.size)
    clear hb
    go_wp2_with fail
    go_ret
    exact ⟨rfl, B.out⟩

set_option maxRecDepth 100000 in
set_option maxHeartbeats 4000000 in
theorem plain_A21F2 (f t z : ByteArray) (k : Int) (w : World) (hf : f.size ≤ 5000) (ht : t.size ≤ 5000) (hz : z.size ≤ 5000) (a1 : tcode t = 0) (a2 : rfc t = 0) (a3 : mch t t = true) (a4 : mch t z = false) (qe : (t.toList == z.toList) = false) (hm : mch f t = true) (hF : rfc f = 0) (mm : Nat) (lst : ByteArray) (hL : (levels f).length = mm + 1 ∧ (levels f)[mm]? = some lst) (h35 : ¬ unB lst = [35]) (p : Bool) (e1 : mch (f ++ ⟨#[47, 35]⟩) t = true) (e3 : mch (f ++ ⟨#[47, 43, 47, 35]⟩) t = p) : Calls Try.prog 5 #[.string f, .string t, .string z, .int .i64 k] w fun e w' => e = .returned (.bool true) ∧ Below w.heap.size w w' := by
  have HS : Hid (f.size ≤ 5000 ∧ t.size ≤ 5000) := ⟨hf, ht⟩
  have i1 : ¬ (5000 : Int) < f.size := by omega
  have i2 : ¬ (5000 : Int) < t.size := by omega
  have i3 : ¬ (5000 : Int) < z.size := by omega
  have HL : Hid ((levels f).length = mm + 1 ∧ (levels f)[mm]? = some lst ∧ True) := ⟨hL.1, hL.2, trivial⟩
  have HF : Hid (rfc f = 0) := hF
  have ql : (lst.toList == (⟨#[35]⟩ : ByteArray).toList) = false := by rw [eq_one]; exact decide_eq_false h35
  have ql' : (lst.toList == [35]) = false := by rw [eq_one']; exact decide_eq_false h35
  have qp : (p == p) = true := by simp
  clear h35 hL hF
  have p0' : 0 < t.size := (tcode_zero a1).2
  have p0 : (0 : Int) < t.size := by omega
  have HAT : Hid (atB t 0 = (t[0]'p0').toNat) := atB_in t 0 p0'
  obtain ⟨w0, hw0⟩ : ∃ w0, w0 = w := ⟨_, rfl⟩
  rw [← hw0]
  have B : Hid (Below w0.heap.size w0 w0) := Below.refl _ _
  clear hw0 hf ht hz
  go_enter Try.func5, Try.ntmps5
  go_wp2_with (first
    | (go_at_call 11; refine (known_any _).mono ?_; rintro e w' ⟨rfl, hb⟩; replace B : Hid (Below w0.heap.size w0 w') := B.out.trans (hb.mono B.out.size); clear hb)
    | (go_at_call 14; refine (tcheck_any _ _).mono ?_; rintro e w' ⟨rfl, hb⟩; replace B : Hid (Below w0.heap.size w0 w') := B.out.trans (hb.mono B.out.size); clear hb; rw [a1])
    | (go_at_call 15; refine (fcheck_any _ _).mono ?_; rintro e w' ⟨rfl, hb⟩; replace B : Hid (Below w0.heap.size w0 w') := B.out.trans (hb.mono B.out.size); clear hb; rw [a2])
    | (go_at_call 9; refine (tmatch_any _ _ _).mono ?_; rintro e w' ⟨rfl, hb⟩; replace B : Hid (Below w0.heap.size w0 w') := B.out.trans (hb.mono B.out.size); clear hb; first | rw [hm] | rw [a3] | rw [a4]))
  go_must (go_at_call 13)
  refine (tlevels_any f (by have := HS.out; omega) _).mono ?_
  rintro e wl ⟨v, rfl, ho, hb⟩
  obtain ⟨g, n, cap, rfl, hn, hc, hg1, hg2⟩ := own_slice ho (levels_ne f)
  have HO : Hid (wl.ownsRow (World.heap _).size 9 1 (.slice (some ⟨g, 0, none⟩) n cap) (levels f).length ((levels f).map Value.string)) := ho
  have HG1 : Hid (w0.heap.size ≤ g) := Nat.le_trans B.out.size hg1
  replace B : Hid (Below w0.heap.size w0 wl) := B.out.trans (hb.mono B.out.size)
  have HNN : Hid (n = (levels f).length ∧ n ≤ cap ∧ 0 < n ∧ n ≤ 1000001) := ⟨hn, hc, by have := levels_ne f; have := List.length_pos_iff.2 this; omega, by have := levels_len f; have := HS.out; omega⟩
  clear hb ho hn hc hg1 hg2
  go_wp2_with fail
  go_must (go_at_call 16)
  refine (place_any k n _ HNN.out.2.2.1 HNN.out.2.2.2).mono ?_
  rintro e wq ⟨⟨i, rfl, hi⟩, hee⟩
  obtain rfl := hee.symm
  clear hee
  obtain ⟨y, hy⟩ : ∃ y, (levels f)[i]? = some y := ⟨_, List.getElem?_eq_getElem (by have := HNN.out.1; omega)⟩
  have hnn := HNN.out.1
  obtain ⟨c1, f1⟩ : wl.cell? ⟨g, i, none⟩ = some (.string y) ∧ wl.frozen? ⟨g, i, none⟩ = false := by
    have ho := HO.out
    rw [← hnn] at ho
    exact ⟨by rw [ho.cellAt i (by omega), List.getElem?_map, hy]; rfl, ho.frozenAt i⟩
  have hlt : (i : Int) < (n : Int) := by omega
  have hcap := HNN.out.2.1
  have hsp : (split (unB f))[i]? = some (unB y) := by rw [← levels_split, List.getElem?_map, hy]; rfl
  have HSP : Hid ((split (unB f))[i]? = some (unB y)) := hsp
  have HI : Hid (i < n) := hi
  clear hy hnn hsp hi
  by_cases h35 : unB y = [35]
  · have q1 : (y.toList == (⟨#[35]⟩ : ByteArray).toList) = true := by rw [eq_one]; exact decide_eq_true h35
    have q1' : (y.toList == [35]) = true := by rw [eq_one']; exact decide_eq_true h35
    clear h35
    go_wp2_with fail
    go_must (go_at_call 13)
    refine (tlevels_any f (by have := HS.out; omega) _).mono ?_
    rintro e wl ⟨v, rfl, ho, hb⟩
    obtain ⟨g, n, cap, rfl, hn, hc, hg1, hg2⟩ := own_slice ho (levels_ne f)
    have hl1 := HL.out.1
    have ho' := ho
    rw [← hn] at ho'
    have HC : Hid (wl.cell? ⟨g, mm, none⟩ = some (.string lst)) := by
      show _ = _
      rw [ho'.cellAt mm (by omega), List.getElem?_map, HL.out.2.1]; rfl
    have HG : Hid (g < wl.heap.size) := hg2
    have HNN : Hid (n = mm + 1 ∧ n ≤ cap ∧ mm ≤ 1000000) := ⟨by rw [hn, HL.out.1], hc, by have := levels_len f; have := HS.out; have := HL.out.1; omega⟩
    have hw : IntKind.i64.wrap ((n : Int) - 1) = (mm : Int) := by rw [IntKind.wrap_i64]; have := HNN.out; omega
    have hlt : (mm : Int) < (n : Int) := by have := HNN.out; omega
    replace B : Hid (Below w0.heap.size w0 wl) := B.out.trans (hb.mono B.out.size)
    clear hb ho hn hc hg1 hg2 hl1 ho'
    go_wp2_with fail
    go_must (go_at_call 15)
    refine (fcheck_any f _).mono ?_
    rintro e wk ⟨rfl, hb⟩
    rw [HF.out]
    have c2 : wk.cell? ⟨g, mm, none⟩ = some (.string lst) := by
      rw [hb.cell (by exact HG.out)]; exact HC.out
    replace B : Hid (Below w0.heap.size w0 wk) := B.out.trans (hb.mono B.out.size)
    clear hb
    go_wp2_with (go_at_call 9; refine (tmatch_any _ _ _).mono ?_; rintro e w' ⟨rfl, hb⟩; replace B : Hid (Below w0.heap.size w0 w') := B.out.trans (hb.mono B.out.size); clear hb; first | rw [hm] | rw [e1] | rw [e3])
    go_ret
    exact ⟨rfl, B.out⟩
  have q1 : (y.toList == (⟨#[35]⟩ : ByteArray).toList) = false := by rw [eq_one]; exact decide_eq_false h35
  have q1' : (y.toList == [35]) = false := by rw [eq_one']; exact decide_eq_false h35
  have H35 : Hid (¬ unB y = [35]) := h35
  clear h35
  by_cases i0 : i = 0
  · subst i0
    by_cases h36 : atB t 0 = 36
    · have q0 : (((t[0]'p0').toNat : Int) == 36) = true := by rw [← HAT.out, h36]; rfl
      clear h36
      go_wp2_with fail
      go_must (go_at_call 13)
      refine (tlevels_any f (by have := HS.out; omega) _).mono ?_
      rintro e wl ⟨v, rfl, ho, hb⟩
      obtain ⟨g, n, cap, rfl, hn, hc, hg1, hg2⟩ := own_slice ho (levels_ne f)
      have hl1 := HL.out.1
      have ho' := ho
      rw [← hn] at ho'
      have HC : Hid (wl.cell? ⟨g, mm, none⟩ = some (.string lst)) := by
        show _ = _
        rw [ho'.cellAt mm (by omega), List.getElem?_map, HL.out.2.1]; rfl
      have HG : Hid (g < wl.heap.size) := hg2
      have HNN : Hid (n = mm + 1 ∧ n ≤ cap ∧ mm ≤ 1000000) := ⟨by rw [hn, HL.out.1], hc, by have := levels_len f; have := HS.out; have := HL.out.1; omega⟩
      have hw : IntKind.i64.wrap ((n : Int) - 1) = (mm : Int) := by rw [IntKind.wrap_i64]; have := HNN.out; omega
      have hlt : (mm : Int) < (n : Int) := by have := HNN.out; omega
      replace B : Hid (Below w0.heap.size w0 wl) := B.out.trans (hb.mono B.out.size)
      clear hb ho hn hc hg1 hg2 hl1 ho'
      go_wp2_with fail
      go_must (go_at_call 15)
      refine (fcheck_any f _).mono ?_
      rintro e wk ⟨rfl, hb⟩
      rw [HF.out]
      have c2 : wk.cell? ⟨g, mm, none⟩ = some (.string lst) := by
        rw [hb.cell (by exact HG.out)]; exact HC.out
      replace B : Hid (Below w0.heap.size w0 wk) := B.out.trans (hb.mono B.out.size)
      clear hb
      go_wp2_with (go_at_call 9; refine (tmatch_any _ _ _).mono ?_; rintro e w' ⟨rfl, hb⟩; replace B : Hid (Below w0.heap.size w0 w') := B.out.trans (hb.mono B.out.size); clear hb; first | rw [hm] | rw [e1] | rw [e3])
      go_ret
      exact ⟨rfl, B.out⟩
    · have q0 : (((t[0]'p0').toNat : Int) == 36) = false := by rw [← HAT.out, beq_eq_false_iff_ne]; omega
      have HP : Hid (mch (mkB (joinL ((split (unB f)).set 0 [43]))) t = true) := plain_set f t HS.out.1 0 (unB y) hm HSP.out H35.out (fun h => h36 h.2)
      clear h36
      have ho2 := HO.out
      rw [← HNN.out.1] at ho2
      have hst := ho2.stored 0 (.string ⟨#[43]⟩)
      have B2 : Hid (Below w0.heap.size w0 (wl.setCell ⟨g, 0, none⟩ (.string ⟨#[43]⟩))) := below_set B.out HG1.out hst.2 B.out.size
      have R2 : Hid (Row (wl.setCell ⟨g, 0, none⟩ (.string ⟨#[43]⟩)) (.slice (some ⟨g, 0, none⟩) n cap) ((levels f).set 0 ⟨#[43]⟩)) := by
        have h1 := hst.1
        rw [map_set_str] at h1
        have hlen : n = ((levels f).set 0 ⟨#[43]⟩).length := by rw [List.length_set]; exact HNN.out.1
        exact row_of' hlen h1
      have hmp : ((levels f).set 0 ⟨#[43]⟩).map unB = (split (unB f)).set 0 [43] := by rw [List.map_set, levels_split]; rfl
      have HJ : Hid (((levels f).set 0 ⟨#[43]⟩).map unB = (split (unB f)).set 0 [43]) := hmp
      have HJL : Hid ((joinL ((split (unB f)).set 0 [43])).length ≤ 1000001) := by
        have := join_set_len (split (unB f)) 0 [43]
        rw [join_split, un_size] at this
        show _ ≤ _
        have := HS.out.1
        simp at *
        omega
      clear ho2 hst hmp
      go_wp2_with fail
      obtain ⟨ws, hws⟩ : ∃ ws, ws = wl.setCell ⟨g, 0, none⟩ (.string ⟨#[43]⟩) := ⟨_, rfl⟩
      rw [← hws] at B2 R2
      rw [← hws]
      clear hws
      go_must (go_at_call 17)
      refine (join_any _ _ _ R2.out (by intro e; have := congrArg List.length e; simp at this; exact levels_ne f this) (by rw [List.length_set]; have := HNN.out; omega) (by rw [HJ.out]; exact HJL.out)).mono ?_
      rintro e wj ⟨rfl, hb⟩
      rw [HJ.out]
      replace B : Hid (Below w0.heap.size w0 wj) := B2.out.trans (hb.mono B2.out.size)
      clear hb
      go_wp2_with fail
      go_must (go_at_call 9)
      refine (tmatch_any _ _ _).mono ?_
      rintro e wm ⟨rfl, hb⟩
      rw [HP.out]
      replace B : Hid (Below w0.heap.size w0 wm) := B.out.trans (hb.mono B.out.size)
      clear hb
      go_wp2_with fail
      go_must (go_at_call 13)
      refine (tlevels_any f (by have := HS.out; omega) _).mono ?_
      rintro e wl ⟨v, rfl, ho, hb⟩
      obtain ⟨g, n, cap, rfl, hn, hc, hg1, hg2⟩ := own_slice ho (levels_ne f)
      have hl1 := HL.out.1
      have ho' := ho
      rw [← hn] at ho'
      have HC : Hid (wl.cell? ⟨g, mm, none⟩ = some (.string lst)) := by
        show _ = _
        rw [ho'.cellAt mm (by omega), List.getElem?_map, HL.out.2.1]; rfl
      have HG : Hid (g < wl.heap.size) := hg2
      have HNN : Hid (n = mm + 1 ∧ n ≤ cap ∧ mm ≤ 1000000) := ⟨by rw [hn, HL.out.1], hc, by have := levels_len f; have := HS.out; have := HL.out.1; omega⟩
      have hw : IntKind.i64.wrap ((n : Int) - 1) = (mm : Int) := by rw [IntKind.wrap_i64]; have := HNN.out; omega
      have hlt : (mm : Int) < (n : Int) := by have := HNN.out; omega
      replace B : Hid (Below w0.heap.size w0 wl) := B.out.trans (hb.mono B.out.size)
      clear hb ho hn hc hg1 hg2 hl1 ho'
      go_wp2_with fail
      go_must (go_at_call 15)
      refine (fcheck_any f _).mono ?_
      rintro e wk ⟨rfl, hb⟩
      rw [HF.out]
      have c2 : wk.cell? ⟨g, mm, none⟩ = some (.string lst) := by
        rw [hb.cell (by exact HG.out)]; exact HC.out
      replace B : Hid (Below w0.heap.size w0 wk) := B.out.trans (hb.mono B.out.size)
      clear hb
      go_wp2_with (go_at_call 9; refine (tmatch_any _ _ _).mono ?_; rintro e w' ⟨rfl, hb⟩; replace B : Hid (Below w0.heap.size w0 w') := B.out.trans (hb.mono B.out.size); clear hb; first | rw [hm] | rw [e1] | rw [e3])
      go_ret
      exact ⟨rfl, B.out⟩
  · have i0' : ((i : Int) == 0) = false := by rw [beq_eq_false_iff_ne]; omega
    have HP : Hid (mch (mkB (joinL ((split (unB f)).set i [43]))) t = true) := plain_set f t HS.out.1 i (unB y) hm HSP.out H35.out (fun h => i0 h.1)
    clear i0
    have ho2 := HO.out
    rw [← HNN.out.1] at ho2
    have hst := ho2.stored i (.string ⟨#[43]⟩)
    have B2 : Hid (Below w0.heap.size w0 (wl.setCell ⟨g, i, none⟩ (.string ⟨#[43]⟩))) := below_set B.out HG1.out hst.2 B.out.size
    have R2 : Hid (Row (wl.setCell ⟨g, i, none⟩ (.string ⟨#[43]⟩)) (.slice (some ⟨g, 0, none⟩) n cap) ((levels f).set i ⟨#[43]⟩)) := by
      have h1 := hst.1
      rw [map_set_str] at h1
      have hlen : n = ((levels f).set i ⟨#[43]⟩).length := by rw [List.length_set]; exact HNN.out.1
      exact row_of' hlen h1
    have hmp : ((levels f).set i ⟨#[43]⟩).map unB = (split (unB f)).set i [43] := by rw [List.map_set, levels_split]; rfl
    have HJ : Hid (((levels f).set i ⟨#[43]⟩).map unB = (split (unB f)).set i [43]) := hmp
    have HJL : Hid ((joinL ((split (unB f)).set i [43])).length ≤ 1000001) := by
      have := join_set_len (split (unB f)) i [43]
      rw [join_split, un_size] at this
      show _ ≤ _
      have := HS.out.1
      simp at *
      omega
    clear ho2 hst hmp
    go_wp2_with fail
    obtain ⟨ws, hws⟩ : ∃ ws, ws = wl.setCell ⟨g, i, none⟩ (.string ⟨#[43]⟩) := ⟨_, rfl⟩
    rw [← hws] at B2 R2
    rw [← hws]
    clear hws
    go_must (go_at_call 17)
    refine (join_any _ _ _ R2.out (by intro e; have := congrArg List.length e; simp at this; exact levels_ne f this) (by rw [List.length_set]; have := HNN.out; omega) (by rw [HJ.out]; exact HJL.out)).mono ?_
    rintro e wj ⟨rfl, hb⟩
    rw [HJ.out]
    replace B : Hid (Below w0.heap.size w0 wj) := B2.out.trans (hb.mono B2.out.size)
    clear hb
    go_wp2_with fail
    go_must (go_at_call 9)
    refine (tmatch_any _ _ _).mono ?_
    rintro e wm ⟨rfl, hb⟩
    rw [HP.out]
    replace B : Hid (Below w0.heap.size w0 wm) := B.out.trans (hb.mono B.out.size)
    clear hb
    go_wp2_with fail
    go_must (go_at_call 13)
    refine (tlevels_any f (by have := HS.out; omega) _).mono ?_
    rintro e wl ⟨v, rfl, ho, hb⟩
    obtain ⟨g, n, cap, rfl, hn, hc, hg1, hg2⟩ := own_slice ho (levels_ne f)
    have hl1 := HL.out.1
    have ho' := ho
    rw [← hn] at ho'
    have HC : Hid (wl.cell? ⟨g, mm, none⟩ = some (.string lst)) := by
      show _ = _
      rw [ho'.cellAt mm (by omega), List.getElem?_map, HL.out.2.1]; rfl
    have HG : Hid (g < wl.heap.size) := hg2
    have HNN : Hid (n = mm + 1 ∧ n ≤ cap ∧ mm ≤ 1000000) := ⟨by rw [hn, HL.out.1], hc, by have := levels_len f; have := HS.out; have := HL.out.1; omega⟩
    have hw : IntKind.i64.wrap ((n : Int) - 1) = (mm : Int) := by rw [IntKind.wrap_i64]; have := HNN.out; omega
    have hlt : (mm : Int) < (n : Int) := by have := HNN.out; omega
    replace B : Hid (Below w0.heap.size w0 wl) := B.out.trans (hb.mono B.out.size)
    clear hb ho hn hc hg1 hg2 hl1 ho'
    go_wp2_with fail
    go_must (go_at_call 15)
    refine (fcheck_any f _).mono ?_
    rintro e wk ⟨rfl, hb⟩
    rw [HF.out]
    have c2 : wk.cell? ⟨g, mm, none⟩ = some (.string lst) := by
      rw [hb.cell (by exact HG.out)]; exact HC.out
    replace B : Hid (Below w0.heap.size w0 wk) := B.out.trans (hb.mono B.out.size)
    clear hb
    go_wp2_with (go_at_call 9; refine (tmatch_any _ _ _).mono ?_; rintro e w' ⟨rfl, hb⟩; replace B : Hid (Below w0.heap.size w0 w') := B.out.trans (hb.mono B.out.size); clear hb; first | rw [hm] | rw [e1] | rw [e3])
    go_ret
    exact ⟨rfl, B.out⟩
end Go.Proofs.Ytmdlplaadelaoaa
