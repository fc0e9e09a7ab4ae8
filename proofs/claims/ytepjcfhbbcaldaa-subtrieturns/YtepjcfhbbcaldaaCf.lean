import Derived.Test.YtepjcfhbbcaldaaRb
import Derived.Test.YtepjcfhbbcaldaaRc
import Derived.Laws.MakeOwn
import Derived.Test.YtepjcfhbbcaldaaRk
namespace Go.Proofs.Ytepjcfhbbcaldaa
open Go Go.RowKit
set_option linter.unusedSimpArgs false
set_option linter.unusedVariables false

theorem countB (s : ByteArray) (c : UInt8) : Lib.countByte s.data.toList c ≤ s.size := by
  unfold Lib.countByte
  have := List.count_le_length (a := c) (l := s.data.toList)
  simpa using this

theorem dec_sl (c d e f : Nat) : ((dec c d e f).1 = 47 ↔ c = 47) ∧ (c = 47 → (dec c d e f).2 = 1) := by
  unfold dec
  by_cases k1 : c < 0x80
  · rw [if_pos k1]; simp
  rw [if_neg k1]
  by_cases k2 : c / 32 = 6 ∧ d / 64 = 2
  · rw [if_pos k2]
    split
    · simp only; omega
    · simp only; omega
  rw [if_neg k2]
  by_cases k3 : c / 16 = 14 ∧ d / 64 = 2 ∧ e / 64 = 2
  · rw [if_pos k3]
    split
    · simp only; omega
    · simp only; omega
  rw [if_neg k3]
  by_cases k4 : c / 8 = 30 ∧ d / 64 = 2 ∧ e / 64 = 2 ∧ f / 64 = 2
  · rw [if_pos k4]
    split
    · simp only; omega
    · simp only; omega
  rw [if_neg k4]
  simp only; omega
theorem lvs_skip (s : ByteArray) (f : Nat) : ∀ (n b k : Nat), k + n ≤ s.size → s.size ≤ k + b → (∀ j, k ≤ j → j < k + n → ¬ atB s j = 47) → ∃ b', lvs s b f k = lvs s b' f (k + n) ∧ s.size ≤ k + n + b'
  | 0, b, k, _, hb, _ => ⟨b, rfl, hb⟩
  | n + 1, b, k, hk, hb, h => by
    obtain ⟨b1, e1, e2⟩ := lvs_on s b f k (by omega) hb (h k (Nat.le_refl _) (by omega))
    obtain ⟨b2, e3, e4⟩ := lvs_skip s f n b1 (k + 1) (by omega) e2 (fun j h1 h2 => h j (by omega) (by omega))
    exact ⟨b2, by rw [e1, e3, show k + 1 + n = k + (n + 1) by omega], by omega⟩
/-- A rune of a text, seen from its bytes. -/
theorem rune_at (s : ByteArray) (k r n : Nat) (hk : k < s.size) (hd : Utf8.decode s k = (r, n)) : 1 ≤ n ∧ k + n ≤ s.size ∧ (r = 47 ↔ atB s k = 47) ∧ (r = 47 → n = 1) ∧ (¬ r = 47 → ∀ j, k ≤ j → j < k + n → ¬ atB s j = 47) := by
  have h1 := dec_sl (atB s k) (atB s (k + 1)) (atB s (k + 2)) (atB s (k + 3))
  have h2 := dec_sg (atB s k) (atB s (k + 1)) (atB s (k + 2)) (atB s (k + 3))
  rw [← decode_dec, hd] at h1 h2
  simp only at h1 h2
  obtain ⟨n1, n4, _, g2, g3, g4⟩ := h2
  have a1 := lt_of_atB s (k + 1)
  have a2 := lt_of_atB s (k + 2)
  have a3 := lt_of_atB s (k + 3)
  refine ⟨n1, ?_, h1.1, fun h => h1.2 (h1.1.1 h), ?_⟩
  · have hc : n = 1 ∨ n = 2 ∨ n = 3 ∨ n = 4 := by omega
    rcases hc with rfl | rfl | rfl | rfl
    · omega
    · have := a1 (by have := g2 (by omega); omega); omega
    · have := a2 (by have := g3 (by omega); omega); omega
    · have := a3 (by have := g4 (by omega); omega); omega
  · intro hr j j1 j2 hj
    have hc : j = k ∨ j = k + 1 ∨ j = k + 2 ∨ j = k + 3 := by omega
    rcases hc with rfl | rfl | rfl | rfl
    · exact hr (h1.1.2 hj)
    · have := g2 (by omega); omega
    · have := g3 (by omega); omega
    · have := g4 (by omega); omega
theorem iter_grown {w w' : World} {g : Nat} {s : ByteArray} {k : Nat} {row : Option Nat} (h : w.heap[g]? = some (.stringIter s k)) (hg : w.grownBy w' row) (hne : some g ≠ row) : w'.heap[g]? = some (.stringIter s k) := by
  rw [hg.block g (block_lt h) hne]; exact h
theorem row_iter {w : World} {base : Nat} {v : Value} {n : Nat} {xs : List Value} {g : Nat} {s : ByteArray} {k : Nat} (h : w.ownsRow base 9 1 v n xs) (hi : w.heap[g]? = some (.stringIter s k)) : some g ≠ v.ownBlock := by
  rcases h.2 with ⟨rfl, _⟩ | ⟨q, cap, cur, rfl, _, hq, _⟩
  · intro e; cases e
  · intro e
    have e' : g = q := Option.some.inj e
    subst e'
    rw [hi] at hq; cases hq
theorem row_setIt {w : World} {base : Nat} {v : Value} {n : Nat} {xs : List Value} {g : Nat} {s : ByteArray} {k k' : Nat} (h : w.ownsRow base 9 1 v n xs) (hi : w.heap[g]? = some (.stringIter s k)) : (setIt w g s k').ownsRow base 9 1 v n xs := by
  refine ⟨h.1, ?_⟩
  rcases h.2 with h2 | ⟨q, cap, cur, rfl, hb, hq, h3⟩
  · exact .inl h2
  · refine .inr ⟨q, cap, cur, rfl, hb, ?_, h3⟩
    have hne : ¬ g = q := by
      rintro rfl; rw [hi] at hq; cases hq
    show (w.heap.setIfInBounds g (.stringIter s k'))[q]? = _
    rw [Array.getElem?_setIfInBounds, if_neg hne]; exact hq

set_option maxRecDepth 100000 in
set_option maxHeartbeats 2000000 in
theorem tlevels_any (s : ByteArray) (hs : s.size ≤ 1000000) (w : World) : Calls Try.prog 28 #[.string s] w fun e w' => ∃ v, e = .returned v ∧ w'.ownsRow w.heap.size 9 1 v (levels s).length ((levels s).map Value.string) ∧ Below w.heap.size w w' := by
  obtain ⟨i0, hi, hz0, hz1, hz2⟩ : ∃ i0, Try.prog.info? 9 = some i0 ∧ i0.zero = some (.string ⟨#[]⟩) ∧ i0.size = 1 ∧ i0.bytes = 16 := ⟨_, rfl, rfl, rfl, rfl⟩
  have HS : Hid (s.size ≤ 1000000) := hs
  have HT : Hid (levels s = [] ++ lvs s s.size 0 0) := rfl
  obtain ⟨n, hn, hn2⟩ : ∃ n : Nat, Lib.countByte s.data.toList 47 = n ∧ n ≤ 1000000 := ⟨_, rfl, Nat.le_trans (countB s 47) hs⟩
  have hw : IntKind.i64.wrap ((n : Int) + 1) = (n : Int) + 1 := by rw [IntKind.wrap_i64]; omega
  obtain ⟨wm, hmk, hom, hgm⟩ := run_make_own (P := Try.prog) w w.heap.size 46 9 i0 (.string ⟨#[]⟩) 1 Try.underlying46 hi hz0 hz1 .i64 .i64 (n + 1) (by rw [hz2]; omega) (by unfold maxLen; omega) (Nat.le_refl _)
  have hmk' : (Instr.makeSlice 46 (.int .i64 0) (.int .i64 ((n : Int) + 1))).run Try.prog w = .ok (.slice (some ⟨w.heap.size, 0, none⟩) 0 (n + 1)) wm := hmk
  have bm : Below w.heap.size w wm := ⟨hgm.os, hgm.tape, hgm.output, hgm.size, fun k hk => hgm.block k hk (fun e => by cases e)⟩
  have I0 : Hid ((wm.iter s 0).heap[wm.heap.size]? = some (.stringIter s 0)) := World.iter_heap wm s 0
  have B0 : Hid (Below w.heap.size w (wm.iter s 0)) := bm.trans ((below_iter wm s 0).mono bm.size)
  have O0 : Hid ((wm.iter s 0).ownsRow w.heap.size 9 1 (.slice (some ⟨w.heap.size, 0, none⟩) 0 (n + 1)) 0 []) := hom.alloc _
  have HL0 : Hid (w.heap.size ≤ wm.heap.size) := bm.size
  clear hs hn2 hmk hom hgm bm
  go_enter Try.func28, Try.ntmps28
  go_wp2_with (go_at_call 49; refine (Try.strings_Count_one s 47 _).mono ?_; rintro e w' ⟨rfl, hee⟩; obtain rfl := hee.symm; clear hee; rw [hn])
  clear hmk'
  go_loopg [3, 4] s.size (fun g s3 s4 wx => ∃ (f i b : Nat) (xs : List ByteArray), f ≤ i ∧ i ≤ s.size ∧ g = s.size - i ∧ s4 = .int .i64 f ∧ Hid (wx.heap[wm.heap.size]? = some (.stringIter s i)) ∧ Hid (wx.ownsRow w.heap.size 9 1 s3 xs.length (xs.map Value.string)) ∧ Hid (Below w.heap.size w wx) ∧ Hid (levels s = xs ++ lvs s b f i) ∧ Hid (s.size ≤ i + b) ∧ Hid (xs.length ≤ i))
  case atStart => exact ⟨0, 0, s.size, [], Nat.le_refl _, Nat.zero_le _, rfl, rfl, I0, O0, B0, HT, by show _ ≤ _; omega, Nat.le_refl _⟩
  case round =>
    obtain ⟨f, i, b, xs, hfi, hisz, rfl, rfl, HI, HO, HB, HL, HF, HN⟩ := hrel
    by_cases hlt : i < s.size
    · obtain ⟨r, m, hd⟩ : ∃ r m, Utf8.decode s i = (r, m) := ⟨_, _, rfl⟩
      obtain ⟨m1, m2, m3, m4, m5⟩ := rune_at s i r m hlt hd
      have hnx := fun ty => next_at HI.out ty hlt r m hd
      have hit2 := setIt_heap (k' := i + m) HI.out
      have B2 := setIt_below HB.out wm.heap.size HL0.out s (i + m)
      have O2 := row_setIt (k' := i + m) HO.out HI.out
      generalize setIt wr wm.heap.size s (i + m) = w2 at *
      have HB2 : Hid (Below w.heap.size w w2) := B2
      have HI2 : Hid (w2.heap[wm.heap.size]? = some (.stringIter s (i + m))) := hit2
      have HO2 : Hid (w2.ownsRow w.heap.size 9 1 _ xs.length (xs.map Value.string)) := O2
      clear B2 hit2 O2 hd HI HO HB
      have hw1 : IntKind.i64.wrap ((i : Int) + 1) = (i : Int) + 1 := by rw [IntKind.wrap_i64]; have := HS.out; omega
      by_cases h47 : r = 47
      · obtain rfl := m4 h47
        have HC : Hid (atB s i = 47) := m3.1 h47
        subst h47
        have hfi' : (f : Int) ≤ i := by omega
        have hisz' : (i : Int) ≤ s.size := by omega
        clear m1 m2 m3 m4 m5
        go_wp2_with (at_builtin; refine wpList_append_own _ rfl (.tmp 19) (.tmp 24) 46 rfl w.heap.size 9 i0 (.string ⟨#[]⟩) 1 16 Try.underlying46 hi hz0 hz1 hz2 rfl (by decide) _ _ _ rfl (HO2.out.alloc _) ⟨_, 0, none⟩ 1 1 [.string (s.extract f i)] rfl rfl ?d1 ?d2 ?d3 ?d4 ?d5 ?_)
        case d1 => exact cell_one_new _ _ _
        case d2 => intro u hu; simp at hu; subst hu; rfl
        case d3 => have := HN.out; have := HS.out; unfold maxLen; omega
        case d4 => have := HN.out; have := HS.out; omega
        case d5 => have := HB2.out.size; simp; omega
        intro v2 w3 hown2 hgrow2 hnil2
        have hb2 := (HB2.out.alloc HB2.out.size _).grown hgrow2 (by have := HB2.out.size; simp; omega) (by intro q hq; exact (HO2.out.lt _ hq).1)
        have hi3 := iter_grown (g := wm.heap.size) (k := i + 1) (s := s) (by rw [heap_alloc_old _ _ (block_lt HI2.out)]; exact HI2.out) hgrow2 (row_iter HO2.out HI2.out)
        obtain ⟨b', e1, e2⟩ := lvs_cut s b f i hlt HF.out HC.out
        have HI3 : Hid (w3.heap[wm.heap.size]? = some (.stringIter s (i + 1))) := hi3
        have HO3 : Hid (w3.ownsRow w.heap.size 9 1 v2 (xs ++ [s.extract f i]).length ((xs ++ [s.extract f i]).map Value.string)) := by show World.ownsRow _ _ _ _ _ _ _; simpa using hown2
        have HB3 : Hid (Below w.heap.size w w3) := hb2
        have HL3 : Hid (levels s = (xs ++ [s.extract f i]) ++ lvs s b' (i + 1) (i + 1)) := by show _ = _; rw [HL.out, e1]; simp
        have HF3 : Hid (s.size ≤ i + 1 + b') := e2
        have HN3 : Hid ((xs ++ [s.extract f i]).length ≤ i + 1) := by show _ ≤ _; have := HN.out; simp; omega
        clear hown2 hgrow2 hnil2 hb2 e1 e2 hi3
        go_wp2
        go_roundg (s.size - (i + 1))
        case measure => omega
        case rel => exact ⟨i + 1, i + 1, b', xs ++ [s.extract f i], Nat.le_refl _, by omega, by omega, by first | rfl | simp, HI3, HO3, HB3, HL3, HF3, HN3⟩
      · have h47' : ((r : Int) == 47) = false := by rw [beq_eq_false_iff_ne]; omega
        obtain ⟨b', e1, e2⟩ := lvs_skip s f m b i m2 HF.out (m5 h47)
        have HL3 : Hid (levels s = xs ++ lvs s b' f (i + m)) := by show _ = _; rw [HL.out, e1]
        have HF3 : Hid (s.size ≤ i + m + b') := e2
        have HN3 : Hid (xs.length ≤ i + m) := Nat.le_trans HN.out (by omega)
        have HM : Hid (1 ≤ m ∧ i + m ≤ s.size) := ⟨m1, m2⟩
        clear h47 e1 e2 m1 m2 m3 m4 m5
        go_wp2
        go_roundg (s.size - (i + m))
        case measure => have := HM.out; omega
        case rel => exact ⟨f, i + m, b', xs, by omega, HM.out.2, by omega, rfl, HI2, HO2, HB2, HL3, HF3, HN3⟩
    · obtain rfl : i = s.size := by omega
      have hnx := fun ty => next_end HI.out ty hlt
      have hfi' : (f : Int) ≤ s.size := by omega
      have HE : Hid (levels s = xs ++ [s.extract f s.size]) := by show _ = _; rw [HL.out, lvs_end s b f _ hlt]
      go_wp2_with (at_builtin; refine wpList_append_own _ rfl (.tmp 28) (.tmp 32) 46 rfl w.heap.size 9 i0 (.string ⟨#[]⟩) 1 16 Try.underlying46 hi hz0 hz1 hz2 rfl (by decide) _ _ _ rfl (HO.out.alloc _) ⟨_, 0, none⟩ 1 1 [.string (s.extract f s.size)] rfl rfl (cell_one_new _ _ _) ?x2 ?x3 ?x4 ?x5 ?_)
      any_goals first | rfl | (intro u hu; simp at hu; subst hu; rfl; done) | (have := HN.out; have := HS.out; unfold maxLen; omega; done) | (have := HN.out; have := HS.out; omega; done) | (have := HB.out.size; simp; omega; done)
      intro v2 w2 hown2 hgrow2 hnil2
      have hb2 := (HB.out.alloc HB.out.size _).grown hgrow2 (by have := HB.out.size; simp; omega) (by intro q hq; exact (HO.out.lt _ hq).1)
      have HO2 : Hid (w2.ownsRow w.heap.size 9 1 v2 (levels s).length ((levels s).map Value.string)) := by show World.ownsRow _ _ _ _ _ _ _; rw [HE.out]; simpa using hown2
      have HB2 : Hid (Below w.heap.size w w2) := hb2
      clear hown2 hgrow2 hnil2 hb2
      go_wp2
      go_ret
      exact ⟨v2, rfl, HO2.out, HB2.out⟩
end Go.Proofs.Ytepjcfhbbcaldaa
namespace Go.Proofs.Ytepjcfhbbcaldaa
open Go Go.RowKit
set_option linter.unusedSimpArgs false
set_option linter.unusedVariables false

theorem lvs_size (s : ByteArray) : ∀ (b f i : Nat) (t : ByteArray), t ∈ lvs s b f i → t.size ≤ s.size
  | 0, f, i, t, h => by
    simp only [lvs, List.mem_singleton] at h
    subst h
    simp [ByteArray.size_extract]
  | b + 1, f, i, t, h => by
    unfold lvs at h
    split at h
    · rename_i hi
      split at h
      · rcases List.mem_cons.1 h with h | h
        · subst h; simp [ByteArray.size_extract]; omega
        · exact lvs_size s b _ _ t h
      · exact lvs_size s b _ _ t h
    · simp only [List.mem_singleton] at h
      subst h
      simp [ByteArray.size_extract]
theorem lvs_some (s : ByteArray) : ∀ (b f i : Nat), 1 ≤ (lvs s b f i).length
  | 0, f, i => by simp [lvs]
  | b + 1, f, i => by
    unfold lvs
    split
    · split
      · simp
      · exact lvs_some s b _ _
    · simp
theorem lvs_most (s : ByteArray) : ∀ (b f i : Nat), (lvs s b f i).length ≤ b + 1
  | 0, f, i => by simp [lvs]
  | b + 1, f, i => by
    unfold lvs
    split
    · split
      · have := lvs_most s b (i + 1) (i + 1); simp; omega
      · have := lvs_most s b f (i + 1); omega
    · simp
theorem hash_list : (⟨#[35]⟩ : ByteArray).toList = [35] := by rw [Lib.toList_data]
def isHash (t : ByteArray) : Bool := t.toList == (⟨#[35]⟩ : ByteArray).toList
/-- Does a sign stand in a level where none may? -/
def lvX (t : ByteArray) (more : Bool) : Bool := (hasS t && decide (1 < t.size)) || (isHash t && more)
def lvAny : List ByteArray → Bool
  | [] => false
  | t :: r => lvX t (!r.isEmpty) || lvAny r
def rfc (s : ByteArray) : Int := if ct s = 0 then (if lvAny (levels s) then 52 else 0) else ct s


end Go.Proofs.Ytepjcfhbbcaldaa
namespace Go.Proofs.Ytepjcfhbbcaldaa
open Go Go.RowKit
set_option linter.unusedSimpArgs false
set_option linter.unusedVariables false

theorem dec_low (v c d e f : Nat) (hv : v < 128) : ((dec c d e f).1 = v ↔ c = v) := by
  unfold dec
  by_cases k1 : c < 0x80
  · rw [if_pos k1]
  rw [if_neg k1]
  by_cases k2 : c / 32 = 6 ∧ d / 64 = 2
  · rw [if_pos k2]
    split
    · simp only; omega
    · simp only; omega
  rw [if_neg k2]
  by_cases k3 : c / 16 = 14 ∧ d / 64 = 2 ∧ e / 64 = 2
  · rw [if_pos k3]
    split
    · simp only; omega
    · simp only; omega
  rw [if_neg k3]
  by_cases k4 : c / 8 = 30 ∧ d / 64 = 2 ∧ e / 64 = 2 ∧ f / 64 = 2
  · rw [if_pos k4]
    split
    · simp only; omega
    · simp only; omega
  rw [if_neg k4]
  simp only; omega
def NoS (s : ByteArray) (j : Nat) : Prop := ¬ atB s j = 43 ∧ ¬ atB s j = 35
theorem rune_sign (s : ByteArray) (k r n : Nat) (hk : k < s.size) (hd : Utf8.decode s k = (r, n)) : 1 ≤ n ∧ k + n ≤ s.size ∧ (r = 43 ↔ atB s k = 43) ∧ (r = 35 ↔ atB s k = 35) ∧ (¬ r = 43 → ¬ r = 35 → ∀ j, k ≤ j → j < k + n → NoS s j) := by
  have h1 := dec_low 43 (atB s k) (atB s (k + 1)) (atB s (k + 2)) (atB s (k + 3)) (by decide)
  have h1' := dec_low 35 (atB s k) (atB s (k + 1)) (atB s (k + 2)) (atB s (k + 3)) (by decide)
  have h2 := dec_sg (atB s k) (atB s (k + 1)) (atB s (k + 2)) (atB s (k + 3))
  obtain ⟨g1, g5, _⟩ := rune_at s k r n hk hd
  rw [← decode_dec, hd] at h1 h2 h1'
  simp only at h1 h2 h1'
  obtain ⟨_, n4, _, g2, g3, g4⟩ := h2
  refine ⟨g1, g5, h1, h1', ?_⟩
  intro hr hr' j j1 j2
  have hc : j = k ∨ j = k + 1 ∨ j = k + 2 ∨ j = k + 3 := by omega
  rcases hc with rfl | rfl | rfl | rfl
  · exact ⟨fun h => hr (h1.2 h), fun h => hr' (h1'.2 h)⟩
  · have := g2 (by omega); exact ⟨by omega, by omega⟩
  · have := g3 (by omega); exact ⟨by omega, by omega⟩
  · have := g4 (by omega); exact ⟨by omega, by omega⟩
theorem isHash_iff (t : ByteArray) : isHash t = true ↔ unB t = [35] := by
  unfold isHash; rw [eq_one]; simp
theorem one_byte (t : ByteArray) (h : t.size = 1) : unB t = [UInt8.ofNat (atB t 0)] := by
  have hl : (unB t).length = 1 := by rw [un_size]; exact h
  match hu : unB t, hl with
  | [c], _ =>
    have := atB_un t 0
    rw [hu] at this
    simp at this
    rw [this]; simp
theorem hash_byte (t : ByteArray) (h : isHash t = true) : t.size = 1 ∧ atB t 0 = 35 := by
  have h1 := (isHash_iff t).1 h
  have h2 : (unB t).length = 1 := by rw [h1]; rfl
  refine ⟨by rw [← un_size]; exact h2, ?_⟩
  rw [atB_un, h1]; rfl
theorem lvX_none (t : ByteArray) (more : Bool) (h : ∀ j, j < t.size → NoS t j) : lvX t more = false := by
  have h1 : hasS t = false := by
    cases hh : hasS t with
    | false => rfl
    | true =>
      obtain ⟨i, hi, h2⟩ := (hsN_iff t t.size).1 hh
      have := h i hi
      rcases h2 with h2 | h2
      · exact absurd h2 this.1
      · exact absurd h2 this.2
  have h2 : isHash t = false := by
    cases hh : isHash t with
    | false => rfl
    | true =>
      obtain ⟨a, b⟩ := hash_byte t hh
      exact absurd b (h 0 (by omega)).2
  simp [lvX, h1, h2]
theorem lvX_long (t : ByteArray) (more : Bool) (k : Nat) (hk : k < t.size) (h : atB t k = 43 ∨ atB t k = 35) (h1 : 1 < t.size) : lvX t more = true := by
  have : hasS t = true := (hsN_iff t t.size).2 ⟨k, hk, h⟩
  simp [lvX, this, h1]
theorem lvX_plus (t : ByteArray) (more : Bool) (hk : 0 < t.size) (h : atB t 0 = 43) (h1 : ¬ 1 < t.size) : lvX t more = false := by
  have h2 : isHash t = false := by
    cases hh : isHash t with
    | false => rfl
    | true =>
      obtain ⟨a, b⟩ := hash_byte t hh
      omega
  simp [lvX, h1, h2]
theorem lvX_hash (t : ByteArray) (more : Bool) (hk : 0 < t.size) (h : atB t 0 = 35) (h1 : ¬ 1 < t.size) : lvX t more = more := by
  have h2 : isHash t = true := (isHash_iff t).2 (by rw [one_byte t (by omega), h]; rfl)
  simp [lvX, h1, h2]

set_option maxRecDepth 100000 in
set_option maxHeartbeats 4000000 in
theorem misplaced_any (l : List ByteArray) (v : Value) (w : World) (R : Row w v l) (hl : l.length ≤ 1000001) (hz : ∀ t ∈ l, t.size ≤ 1000000) : Calls Try.prog 41 #[v] w fun e w' => e = .returned (.bool (lvAny l)) ∧ Below w.heap.size w w' := by
  obtain ⟨x, hx⟩ : ∃ x, x = lvAny l := ⟨_, rfl⟩
  rw [← hx]
  have HX : Hid (x = lvAny (l.drop 0)) := hx
  obtain ⟨a, n, cap, rfl, hn, hc, hrow⟩ := R
  have HN : Hid (n = l.length ∧ n ≤ cap ∧ l.length ≤ 1000001) := ⟨hn, hc, hl⟩
  have HZ : Hid (∀ t ∈ l, t.size ≤ 1000000) := hz
  have HA : Hid (l ≠ [] → ∃ g o, a = some ⟨g, o, none⟩ ∧ g < w.heap.size ∧ ∀ k x, l[k]? = some x → w.cell? ⟨g, o + k, none⟩ = some (.string x)) := hrow
  clear hx hn hc hl hz hrow
  go_enter Try.func41, Try.ntmps41
  go_wp2_with fail
  go_step3
  go_wp2_with fail
  go_step3
  go_wp2_with fail
  go_loopg [3, 10] n (fun gg s3 s10 wx => ∃ k : Nat, k ≤ n ∧ gg = n - k ∧ s3 = .bool false ∧ s10 = .int .i64 k ∧ Hid (Below w.heap.size w wx) ∧ Hid (x = lvAny (l.drop k)))
  case atStart => exact ⟨0, Nat.zero_le _, rfl, rfl, rfl, Below.refl _ _, HX⟩
  case round =>
    obtain ⟨k, hk, rfl, rfl, rfl, B, HE⟩ := hrel
    by_cases hlt : k < n
    · have hlt' : (k : Int) < n := by omega
      obtain ⟨t, ht⟩ : ∃ t, l[k]? = some t := ⟨_, List.getElem?_eq_getElem (by have := HN.out.1; omega)⟩
      obtain ⟨g, o, rfl, hg, hcells⟩ := HA.out (fun e => by subst e; simp at ht)
      have c1 : wr.cell? ⟨g, o + k, none⟩ = some (.string t) := by rw [B.out.cell (by exact hg)]; exact hcells k t ht
      have hcap := HN.out.2.1
      have hw : IntKind.i64.wrap ((k : Int) + 1) = (k : Int) + 1 := by rw [IntKind.wrap_i64]; have := HN.out; omega
      have hw2 : IntKind.i64.wrap ((n : Int) - 1) = (n : Int) - 1 := by rw [IntKind.wrap_i64]; have := HN.out; omega
      have HS : Hid (lvAny (l.drop k) = (lvX t (decide (k + 1 < n)) || lvAny (l.drop (k + 1)))) := by
        show _ = _
        obtain ⟨hi, e⟩ := List.getElem?_eq_some_iff.1 ht
        have hnn := HN.out.1
        rw [List.drop_eq_getElem_cons hi, e]
        simp only [lvAny]
        congr 2
        by_cases hm : k + 1 < n
        · rw [decide_eq_true hm]; cases hd : List.drop (k + 1) l with
          | nil => have := congrArg List.length hd; simp at this; omega
          | cons a r => rfl
        · rw [decide_eq_false hm, List.drop_eq_nil_of_le (by omega)]; rfl
      have HBad : Hid (lvX t (decide (k + 1 < n)) = true → x = true) := fun h => by rw [HE.out, HS.out, h]; rfl
      have HOk : Hid (lvX t (decide (k + 1 < n)) = false → x = lvAny (l.drop (k + 1))) := fun h => by rw [HE.out, HS.out, h]; rfl
      have HTz : Hid (t.size ≤ 1000000) := HZ.out t (List.mem_of_getElem? ht)
      obtain ⟨w0, hw0⟩ : ∃ w0, w0 = wr := ⟨_, rfl⟩
      have BI : Hid (Below w.heap.size w (w0.iter t 0)) := by show Below _ _ _; rw [hw0]; exact B.out.trans ((below_iter wr t 0).mono B.out.size)
      have BH : Hid (w.heap.size ≤ w0.heap.size) := by show w.heap.size ≤ w0.heap.size; rw [hw0]; exact B.out.size
      have II : Hid ((w0.iter t 0).heap[w0.heap.size]? = some (.stringIter t 0)) := World.iter_heap w0 t 0
      rw [← hw0] at c1 ⊢
      clear hw0 B HS HE hcells ht hg
      have P0 : Hid ((0 < t.size → ∀ j, j < 0 → NoS t j) ∧ (¬ 0 < t.size → lvX t (decide (k + 1 < n)) = false)) := ⟨fun _ j hj => by omega, fun h => lvX_none t _ (fun j hj => by omega)⟩
      obtain ⟨more, hmore⟩ : ∃ more, more = decide (k + 1 < n) := ⟨_, rfl⟩
      rw [← hmore] at HBad HOk P0
      have hmI : decide ((k : Int) < (n : Int) - 1) = more := by rw [hmore]; exact decide_eq_decide.2 (by omega)
      clear hmore
      go_wp2_with fail
      go_loopg [3] t.size (fun g2 s3 wy => ∃ q : Nat, q ≤ t.size ∧ g2 = t.size - q ∧ s3 = .bool false ∧ Hid (Below w.heap.size w wy) ∧ Hid (wy.heap[w0.heap.size]? = some (.stringIter t q)) ∧ Hid ((q < t.size → ∀ j, j < q → NoS t j) ∧ (¬ q < t.size → lvX t more = false)))
      case atStart => exact ⟨0, Nat.zero_le _, rfl, rfl, BI, II, P0⟩
      case round =>
        obtain ⟨q, hq, rfl, rfl, B, HI, HP⟩ := hrel
        by_cases hqt : q < t.size
        · obtain ⟨r, m, hd⟩ : ∃ r m, Utf8.decode t q = (r, m) := ⟨_, _, rfl⟩
          obtain ⟨m1, m2, m3, m4, m5⟩ := rune_sign t q r m hqt hd
          have hnx := fun ty => next_at HI.out ty hqt r m hd
          have hit2 := setIt_heap (k' := q + m) HI.out
          have B2 := setIt_below B.out w0.heap.size BH.out t (q + m)
          generalize setIt wr w0.heap.size t (q + m) = w2 at *
          have HB2 : Hid (Below w.heap.size w w2) := B2
          have HI2 : Hid (w2.heap[w0.heap.size]? = some (.stringIter t (q + m))) := hit2
          clear B2 hit2 hd HI B
          by_cases h43 : r = 43
          · subst h43
            have hat := m3.1 rfl
            by_cases h1 : 1 < t.size
            · have h1' : (1 : Int) < t.size := by omega
              have HR : Hid (x = true) := HBad.out (lvX_long t _ q hqt (.inl hat) h1)
              clear m1 m2 m3 m4 m5 hat h1
              go_wp2_with fail
              try rw [Exit.noGoto_ret]
              go_ret
              exact ⟨by rw [HR.out]; rfl, HB2.out⟩
            · have h1' : ¬ (1 : Int) < t.size := by omega
              obtain rfl : q = 0 := by omega
              have HF : Hid (lvX t more = false) := lvX_plus t _ hqt hat h1
              have HM : Hid (1 ≤ m ∧ 0 + m ≤ t.size) := ⟨m1, m2⟩
              have HP2 : Hid ((0 + m < t.size → ∀ j, j < 0 + m → NoS t j) ∧ (¬ 0 + m < t.size → lvX t more = false)) := ⟨fun h => by omega, fun _ => HF.out⟩
              clear m1 m2 m3 m4 m5 hat h1
              go_wp2_with fail
              go_roundg (t.size - (0 + m))
              case measure => have := HM.out; omega
              case rel => exact ⟨0 + m, HM.out.2, rfl, rfl, HB2, HI2, HP2⟩
          have e43 : ((r : Int) == 43) = false := by rw [beq_eq_false_iff_ne]; omega
          by_cases h35 : r = 35
          · subst h35
            have hat := m4.1 rfl
            by_cases h1 : 1 < t.size
            · have h1' : (1 : Int) < t.size := by omega
              have HR : Hid (x = true) := HBad.out (lvX_long t _ q hqt (.inr hat) h1)
              clear m1 m2 m3 m4 m5 hat h1
              go_wp2_with fail
              try rw [Exit.noGoto_ret]
              go_ret
              exact ⟨by rw [HR.out]; rfl, HB2.out⟩
            · have h1' : ¬ (1 : Int) < t.size := by omega
              obtain rfl : q = 0 := by omega
              have HV : Hid (lvX t more = more) := lvX_hash t _ hqt hat h1
              cases more with
              | true =>
                have hmI' : (k : Int) < (n : Int) - 1 := of_decide_eq_true hmI
                have HR : Hid (x = true) := HBad.out HV.out
                clear m1 m2 m3 m4 m5 hat h1
                go_wp2_with fail
                try rw [Exit.noGoto_ret]
                go_ret
                exact ⟨by rw [HR.out]; rfl, HB2.out⟩
              | false =>
                have hmI' : ¬ (k : Int) < (n : Int) - 1 := of_decide_eq_false hmI
                have HM : Hid (1 ≤ m ∧ 0 + m ≤ t.size) := ⟨m1, m2⟩
                have HP2 : Hid ((0 + m < t.size → ∀ j, j < 0 + m → NoS t j) ∧ (¬ 0 + m < t.size → lvX t false = false)) := ⟨fun h => by omega, fun _ => HV.out⟩
                clear m1 m2 m3 m4 m5 hat h1
                go_wp2_with fail
                go_roundg (t.size - (0 + m))
                case measure => have := HM.out; omega
                case rel => exact ⟨0 + m, HM.out.2, rfl, rfl, HB2, HI2, HP2⟩
          have e35 : ((r : Int) == 35) = false := by rw [beq_eq_false_iff_ne]; omega
          have HM : Hid (1 ≤ m ∧ q + m ≤ t.size) := ⟨m1, m2⟩
          have hno : ∀ j, j < q + m → NoS t j := fun j hj => by
            by_cases hjq : j < q
            · exact HP.out.1 hqt j hjq
            · exact m5 h43 h35 j (by omega) hj
          have HP2 : Hid ((q + m < t.size → ∀ j, j < q + m → NoS t j) ∧ (¬ q + m < t.size → lvX t more = false)) := ⟨fun _ => hno, fun h => lvX_none t _ (fun j hj => hno j (by omega))⟩
          clear m1 m2 m3 m4 m5 hno h43 h35
          go_wp2_with fail
          go_roundg (t.size - (q + m))
          case measure => have := HM.out; omega
          case rel => exact ⟨q + m, HM.out.2, rfl, rfl, HB2, HI2, HP2⟩
        · have hnx := fun ty => next_end HI.out ty hqt
          have HE2 : Hid (x = lvAny (l.drop (k + 1))) := HOk.out (HP.out.2 hqt)
          go_wp2_with fail
          go_roundg (n - (k + 1))
          case measure => omega
          case rel => exact ⟨k + 1, by omega, by omega, rfl, by first | rfl | simp, B, HE2⟩
    · obtain rfl : k = n := by omega
      have hlt' : ¬ (k : Int) < k := by omega
      have HR : Hid (x = false) := by show _ = _; rw [HE.out, List.drop_eq_nil_of_le (by have := HN.out.1; omega)]; rfl
      go_wp2_with fail
      try rw [Exit.noGoto_ret]
      go_ret
      exact ⟨by rw [HR.out]; rfl, B.out⟩
end Go.Proofs.Ytepjcfhbbcaldaa
