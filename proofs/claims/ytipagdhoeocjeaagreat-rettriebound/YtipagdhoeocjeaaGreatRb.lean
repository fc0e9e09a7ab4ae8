import Derived.Test.YtipagdhoeocjeaaGreatCc
import Derived.Deep.LoopGhost
import Derived.OwnWalk
namespace Go.Proofs.YtipagdhoeocjeaaGreat
open Go Go.RowKit
set_option linter.unusedSimpArgs false
set_option linter.unusedVariables false

theorem Row.at {w : World} {v : Value} {xs : List ByteArray} (h : Row w v xs) : ∃ a n cap, v = .slice a n cap ∧ n = xs.length ∧ n ≤ cap ∧ (xs ≠ [] → ∃ g o, a = some ⟨g, o, none⟩ ∧ g < w.heap.size ∧ ∀ k x, xs[k]? = some x → w.cell? ⟨g, o + k, none⟩ = some (.string x)) := h

theorem mt_drop (F T : List Bs) (i : Nat) (f t : Bs) (h1 : F[i]? = some f) (h2 : T[i]? = some t) : mt (F.drop i) (T.drop i) = (if f = [35] then true else if f ≠ [43] ∧ f ≠ t then false else mt (F.drop (i + 1)) (T.drop (i + 1))) := by
  obtain ⟨hi, e⟩ := List.getElem?_eq_some_iff.1 h1
  obtain ⟨hj, e'⟩ := List.getElem?_eq_some_iff.1 h2
  rw [List.drop_eq_getElem_cons hi, List.drop_eq_getElem_cons hj, e, e']
  rfl
theorem mt_drop_hash (F T : List Bs) (i : Nat) (h1 : F[i]? = some [35]) : mt (F.drop i) (T.drop i) = true := by
  obtain ⟨hi, e⟩ := List.getElem?_eq_some_iff.1 h1
  rw [List.drop_eq_getElem_cons hi, e]
  rfl
theorem mt_drop_short (F T : List Bs) (i : Nat) (f : Bs) (h1 : F[i]? = some f) (hf : ¬ f = [35]) (h2 : T.length ≤ i) : mt (F.drop i) (T.drop i) = false := by
  obtain ⟨hi, e⟩ := List.getElem?_eq_some_iff.1 h1
  rw [List.drop_eq_getElem_cons hi, e, List.drop_eq_nil_of_le h2]
  simp [mt, hf]


end Go.Proofs.YtipagdhoeocjeaaGreat
namespace Go.Proofs.YtipagdhoeocjeaaGreat
open Go Go.RowKit
set_option linter.unusedSimpArgs false
set_option linter.unusedVariables false

/-- How many bytes go on behind a first one, and between which bounds the first of them is. -/
def mr (c : Nat) : Int × Nat × Nat :=
  if c ≤ 127 then (0, 0, 0) else if c ≤ 193 then (-1, 0, 0) else if c ≤ 223 then (1, 128, 191) else if c ≤ 224 then (2, 160, 191) else if c ≤ 236 then (2, 128, 191) else if c ≤ 237 then (2, 128, 159) else if c ≤ 239 then (2, 128, 191) else if c ≤ 240 then (3, 144, 191) else if c ≤ 243 then (3, 128, 191) else if c ≤ 244 then (3, 128, 143) else (-1, 0, 0)
theorem mr_0 (c : Nat) (h1 : 0 ≤ c) (h2 : c ≤ 127) : mr c = (0, 0, 0) := by unfold mr; rw [if_pos (by omega)]
theorem mr_1 (c : Nat) (h1 : 128 ≤ c) (h2 : c ≤ 193) : mr c = (-1, 0, 0) := by unfold mr; rw [if_neg (by omega), if_pos (by omega)]
theorem mr_2 (c : Nat) (h1 : 194 ≤ c) (h2 : c ≤ 223) : mr c = (1, 128, 191) := by unfold mr; rw [if_neg (by omega), if_neg (by omega), if_pos (by omega)]
theorem mr_3 (c : Nat) (h1 : 224 ≤ c) (h2 : c ≤ 224) : mr c = (2, 160, 191) := by unfold mr; rw [if_neg (by omega), if_neg (by omega), if_neg (by omega), if_pos (by omega)]
theorem mr_4 (c : Nat) (h1 : 225 ≤ c) (h2 : c ≤ 236) : mr c = (2, 128, 191) := by unfold mr; rw [if_neg (by omega), if_neg (by omega), if_neg (by omega), if_neg (by omega), if_pos (by omega)]
theorem mr_5 (c : Nat) (h1 : 237 ≤ c) (h2 : c ≤ 237) : mr c = (2, 128, 159) := by unfold mr; rw [if_neg (by omega), if_neg (by omega), if_neg (by omega), if_neg (by omega), if_neg (by omega), if_pos (by omega)]
theorem mr_6 (c : Nat) (h1 : 238 ≤ c) (h2 : c ≤ 239) : mr c = (2, 128, 191) := by unfold mr; rw [if_neg (by omega), if_neg (by omega), if_neg (by omega), if_neg (by omega), if_neg (by omega), if_neg (by omega), if_pos (by omega)]
theorem mr_7 (c : Nat) (h1 : 240 ≤ c) (h2 : c ≤ 240) : mr c = (3, 144, 191) := by unfold mr; rw [if_neg (by omega), if_neg (by omega), if_neg (by omega), if_neg (by omega), if_neg (by omega), if_neg (by omega), if_neg (by omega), if_pos (by omega)]
theorem mr_8 (c : Nat) (h1 : 241 ≤ c) (h2 : c ≤ 243) : mr c = (3, 128, 191) := by unfold mr; rw [if_neg (by omega), if_neg (by omega), if_neg (by omega), if_neg (by omega), if_neg (by omega), if_neg (by omega), if_neg (by omega), if_neg (by omega), if_pos (by omega)]
theorem mr_9 (c : Nat) (h1 : 244 ≤ c) (h2 : c ≤ 244) : mr c = (3, 128, 143) := by unfold mr; rw [if_neg (by omega), if_neg (by omega), if_neg (by omega), if_neg (by omega), if_neg (by omega), if_neg (by omega), if_neg (by omega), if_neg (by omega), if_neg (by omega), if_pos (by omega)]
theorem mr_10 (c : Nat) (h1 : 245 ≤ c) (h2 : c ≤ 255) : mr c = (-1, 0, 0) := by unfold mr; rw [if_neg (by omega), if_neg (by omega), if_neg (by omega), if_neg (by omega), if_neg (by omega), if_neg (by omega), if_neg (by omega), if_neg (by omega), if_neg (by omega), if_neg (by omega)]
def lo5 (L j : Nat) : Nat := if j = 1 then L else 128
def hi5 (H j : Nat) : Nat := if j = 1 then H else 191
/-- Does a byte behind the first one fit? -/
def In5 (s : ByteArray) (k L H j : Nat) : Prop := lo5 L j ≤ atB s (k + j) ∧ atB s (k + j) ≤ hi5 H j
theorem mr_most (c : Nat) : (mr c).1 ≤ 3 ∧ -1 ≤ (mr c).1 := by unfold mr; (repeat' split) <;> (constructor <;> decide)
theorem mr_low (c : Nat) (h : 1 ≤ (mr c).1) : 128 ≤ (mr c).2.1 := by
  revert h; unfold mr; (repeat' split) <;> (intro h; first | (exact absurd h (by decide)) | decide)
theorem point_neg (s : ByteArray) (k : Nat) (h : (mr (atB s k)).1 < 0) : point s k = 0 := by
  have h0 := atB_lt s k
  revert h
  unfold point
  generalize atB s k = c at *
  intro h
  by_cases a : c ≤ 193
  · by_cases b : c ≤ 127
    · rw [mr_0 c (by omega) b] at h; exact absurd h (by decide)
    · unfold pt
      rw [if_neg (by omega), if_neg (by omega), if_neg (by omega), if_neg (by omega)]
  · by_cases b : c ≤ 244
    · exfalso
      revert h; unfold mr; (repeat' split) <;> (intro h; first | (exact absurd h (by decide)) | omega)
    · unfold pt
      rw [if_neg (by omega), if_neg (by omega), if_neg (by omega), if_neg (by omega)]
theorem point_ok (s : ByteArray) (k m : Nat) (hm : (mr (atB s k)).1 = m) (hj : ∀ j, 1 ≤ j → j ≤ m → In5 s k (mr (atB s k)).2.1 (mr (atB s k)).2.2 j) : point s k = m + 1 := by
  have h0 := atB_lt s k
  obtain ⟨c, hc⟩ : ∃ c, atB s k = c := ⟨_, rfl⟩
  rw [hc] at hm hj h0
  by_cases r0 : c ≤ 127
  · have e := mr_0 c (by omega) (by omega)
    rw [e] at hm hj
    obtain rfl : m = 0 := by simp at hm; omega
    unfold point pt
    rw [hc, if_pos (by omega)]
  by_cases r1 : c ≤ 193
  · have e := mr_1 c (by omega) (by omega)
    rw [e] at hm hj
    exfalso; revert hm; simp; try omega
  by_cases r2 : c ≤ 223
  · have e := mr_2 c (by omega) (by omega)
    rw [e] at hm hj
    obtain rfl : m = 1 := by simp at hm; omega
    have h1 := hj 1 (by decide) (by decide)
    simp [In5, lo5, hi5] at h1
    unfold point pt
    rw [hc, if_neg (by omega), if_pos (by omega)]
  by_cases r3 : c ≤ 224
  · have e := mr_3 c (by omega) (by omega)
    rw [e] at hm hj
    obtain rfl : m = 2 := by simp at hm; omega
    have h1 := hj 1 (by decide) (by decide)
    have h2 := hj 2 (by decide) (by decide)
    simp [In5, lo5, hi5] at h1 h2
    unfold point pt
    rw [hc, if_neg (by omega), if_neg (by omega), if_pos (by omega)]
  by_cases r4 : c ≤ 236
  · have e := mr_4 c (by omega) (by omega)
    rw [e] at hm hj
    obtain rfl : m = 2 := by simp at hm; omega
    have h1 := hj 1 (by decide) (by decide)
    have h2 := hj 2 (by decide) (by decide)
    simp [In5, lo5, hi5] at h1 h2
    unfold point pt
    rw [hc, if_neg (by omega), if_neg (by omega), if_pos (by omega)]
  by_cases r5 : c ≤ 237
  · have e := mr_5 c (by omega) (by omega)
    rw [e] at hm hj
    obtain rfl : m = 2 := by simp at hm; omega
    have h1 := hj 1 (by decide) (by decide)
    have h2 := hj 2 (by decide) (by decide)
    simp [In5, lo5, hi5] at h1 h2
    unfold point pt
    rw [hc, if_neg (by omega), if_neg (by omega), if_pos (by omega)]
  by_cases r6 : c ≤ 239
  · have e := mr_6 c (by omega) (by omega)
    rw [e] at hm hj
    obtain rfl : m = 2 := by simp at hm; omega
    have h1 := hj 1 (by decide) (by decide)
    have h2 := hj 2 (by decide) (by decide)
    simp [In5, lo5, hi5] at h1 h2
    unfold point pt
    rw [hc, if_neg (by omega), if_neg (by omega), if_pos (by omega)]
  by_cases r7 : c ≤ 240
  · have e := mr_7 c (by omega) (by omega)
    rw [e] at hm hj
    obtain rfl : m = 3 := by simp at hm; omega
    have h1 := hj 1 (by decide) (by decide)
    have h2 := hj 2 (by decide) (by decide)
    have h3 := hj 3 (by decide) (by decide)
    simp [In5, lo5, hi5] at h1 h2 h3
    unfold point pt
    rw [hc, if_neg (by omega), if_neg (by omega), if_neg (by omega), if_pos (by omega)]
  by_cases r8 : c ≤ 243
  · have e := mr_8 c (by omega) (by omega)
    rw [e] at hm hj
    obtain rfl : m = 3 := by simp at hm; omega
    have h1 := hj 1 (by decide) (by decide)
    have h2 := hj 2 (by decide) (by decide)
    have h3 := hj 3 (by decide) (by decide)
    simp [In5, lo5, hi5] at h1 h2 h3
    unfold point pt
    rw [hc, if_neg (by omega), if_neg (by omega), if_neg (by omega), if_pos (by omega)]
  by_cases r9 : c ≤ 244
  · have e := mr_9 c (by omega) (by omega)
    rw [e] at hm hj
    obtain rfl : m = 3 := by simp at hm; omega
    have h1 := hj 1 (by decide) (by decide)
    have h2 := hj 2 (by decide) (by decide)
    have h3 := hj 3 (by decide) (by decide)
    simp [In5, lo5, hi5] at h1 h2 h3
    unfold point pt
    rw [hc, if_neg (by omega), if_neg (by omega), if_neg (by omega), if_pos (by omega)]
  have e := mr_10 c (by omega) (by omega)
  rw [e] at hm hj
  exfalso; revert hm; simp; try omega
theorem point_no (s : ByteArray) (k m : Nat) (hm : (mr (atB s k)).1 = m) (hj : ∃ j, 1 ≤ j ∧ j ≤ m ∧ ¬ In5 s k (mr (atB s k)).2.1 (mr (atB s k)).2.2 j) : point s k = 0 := by
  have h0 := atB_lt s k
  obtain ⟨c, hc⟩ : ∃ c, atB s k = c := ⟨_, rfl⟩
  rw [hc] at hm hj h0
  by_cases r0 : c ≤ 127
  · have e := mr_0 c (by omega) (by omega)
    rw [e] at hm hj
    obtain rfl : m = 0 := by simp at hm; omega
    obtain ⟨j, j1, j2, hj⟩ := hj
    omega
  by_cases r1 : c ≤ 193
  · have e := mr_1 c (by omega) (by omega)
    rw [e] at hm hj
    exfalso; revert hm; simp; try omega
  by_cases r2 : c ≤ 223
  · have e := mr_2 c (by omega) (by omega)
    rw [e] at hm hj
    obtain rfl : m = 1 := by simp at hm; omega
    obtain ⟨j, j1, j2, hj⟩ := hj
    unfold point pt
    rw [hc]
    have jj : j = 1 := by omega
    rcases jj with rfl <;> simp [In5, lo5, hi5] at hj <;> rw [if_neg (by omega), if_neg (by omega), if_neg (by omega), if_neg (by omega)]
  by_cases r3 : c ≤ 224
  · have e := mr_3 c (by omega) (by omega)
    rw [e] at hm hj
    obtain rfl : m = 2 := by simp at hm; omega
    obtain ⟨j, j1, j2, hj⟩ := hj
    unfold point pt
    rw [hc]
    have jj : j = 1 ∨ j = 2 := by omega
    rcases jj with rfl | rfl <;> simp [In5, lo5, hi5] at hj <;> rw [if_neg (by omega), if_neg (by omega), if_neg (by omega), if_neg (by omega)]
  by_cases r4 : c ≤ 236
  · have e := mr_4 c (by omega) (by omega)
    rw [e] at hm hj
    obtain rfl : m = 2 := by simp at hm; omega
    obtain ⟨j, j1, j2, hj⟩ := hj
    unfold point pt
    rw [hc]
    have jj : j = 1 ∨ j = 2 := by omega
    rcases jj with rfl | rfl <;> simp [In5, lo5, hi5] at hj <;> rw [if_neg (by omega), if_neg (by omega), if_neg (by omega), if_neg (by omega)]
  by_cases r5 : c ≤ 237
  · have e := mr_5 c (by omega) (by omega)
    rw [e] at hm hj
    obtain rfl : m = 2 := by simp at hm; omega
    obtain ⟨j, j1, j2, hj⟩ := hj
    unfold point pt
    rw [hc]
    have jj : j = 1 ∨ j = 2 := by omega
    rcases jj with rfl | rfl <;> simp [In5, lo5, hi5] at hj <;> rw [if_neg (by omega), if_neg (by omega), if_neg (by omega), if_neg (by omega)]
  by_cases r6 : c ≤ 239
  · have e := mr_6 c (by omega) (by omega)
    rw [e] at hm hj
    obtain rfl : m = 2 := by simp at hm; omega
    obtain ⟨j, j1, j2, hj⟩ := hj
    unfold point pt
    rw [hc]
    have jj : j = 1 ∨ j = 2 := by omega
    rcases jj with rfl | rfl <;> simp [In5, lo5, hi5] at hj <;> rw [if_neg (by omega), if_neg (by omega), if_neg (by omega), if_neg (by omega)]
  by_cases r7 : c ≤ 240
  · have e := mr_7 c (by omega) (by omega)
    rw [e] at hm hj
    obtain rfl : m = 3 := by simp at hm; omega
    obtain ⟨j, j1, j2, hj⟩ := hj
    unfold point pt
    rw [hc]
    have jj : j = 1 ∨ j = 2 ∨ j = 3 := by omega
    rcases jj with rfl | rfl | rfl <;> simp [In5, lo5, hi5] at hj <;> rw [if_neg (by omega), if_neg (by omega), if_neg (by omega), if_neg (by omega)]
  by_cases r8 : c ≤ 243
  · have e := mr_8 c (by omega) (by omega)
    rw [e] at hm hj
    obtain rfl : m = 3 := by simp at hm; omega
    obtain ⟨j, j1, j2, hj⟩ := hj
    unfold point pt
    rw [hc]
    have jj : j = 1 ∨ j = 2 ∨ j = 3 := by omega
    rcases jj with rfl | rfl | rfl <;> simp [In5, lo5, hi5] at hj <;> rw [if_neg (by omega), if_neg (by omega), if_neg (by omega), if_neg (by omega)]
  by_cases r9 : c ≤ 244
  · have e := mr_9 c (by omega) (by omega)
    rw [e] at hm hj
    obtain rfl : m = 3 := by simp at hm; omega
    obtain ⟨j, j1, j2, hj⟩ := hj
    unfold point pt
    rw [hc]
    have jj : j = 1 ∨ j = 2 ∨ j = 3 := by omega
    rcases jj with rfl | rfl | rfl <;> simp [In5, lo5, hi5] at hj <;> rw [if_neg (by omega), if_neg (by omega), if_neg (by omega), if_neg (by omega)]
  have e := mr_10 c (by omega) (by omega)
  rw [e] at hm hj
  exfalso; revert hm; simp; try omega
end Go.Proofs.YtipagdhoeocjeaaGreat
namespace Go.Proofs.YtipagdhoeocjeaaGreat
open Go Go.RowKit
set_option linter.unusedSimpArgs false
set_option linter.unusedVariables false


end Go.Proofs.YtipagdhoeocjeaaGreat
