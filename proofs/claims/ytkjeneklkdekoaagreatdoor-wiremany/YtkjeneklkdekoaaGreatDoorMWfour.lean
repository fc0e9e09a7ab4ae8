import Derived.Test.YtkjeneklkdekoaaGreatDoorMWtwo
namespace Go.Proofs.YtkjeneklkdekoaaGreatDoor.Rm
open Go.RowKit
set_option linter.unusedSimpArgs false
set_option linter.unusedVariables false

theorem tl12 (s : ByteArray) (i : Nat) : tlI s ((i : Int) + 1) ((i : Int) + 2) = wi (atB s (i + 1)) 128 191 := by
  have e : tlI s ((i : Int) + 1) ((i : Int) + 2) = tlN s (i + 1) 1 := by unfold tlI; congr 1 <;> omega
  rw [e]; simp [tlN, atI]
theorem tl13 (s : ByteArray) (i : Nat) : tlI s ((i : Int) + 1) ((i : Int) + 3) = (wi (atB s (i + 1)) 128 191 && wi (atB s (i + 2)) 128 191) := by
  have e : tlI s ((i : Int) + 1) ((i : Int) + 3) = tlN s (i + 1) 2 := by unfold tlI; congr 1 <;> omega
  rw [e]; simp [tlN, atI]; rfl
theorem tl14 (s : ByteArray) (i : Nat) : tlI s ((i : Int) + 1) ((i : Int) + 4) = (wi (atB s (i + 1)) 128 191 && wi (atB s (i + 2)) 128 191 && wi (atB s (i + 3)) 128 191) := by
  have e : tlI s ((i : Int) + 1) ((i : Int) + 4) = tlN s (i + 1) 3 := by unfold tlI; congr 1 <;> omega
  rw [e]; simp [tlN, atI]; rfl
theorem tl23 (s : ByteArray) (i : Nat) : tlI s ((i : Int) + 2) ((i : Int) + 3) = wi (atB s (i + 2)) 128 191 := by
  have e : tlI s ((i : Int) + 2) ((i : Int) + 3) = tlN s (i + 2) 1 := by unfold tlI; congr 1 <;> omega
  rw [e]; simp [tlN, atI]; rfl
theorem tl24 (s : ByteArray) (i : Nat) : tlI s ((i : Int) + 2) ((i : Int) + 4) = (wi (atB s (i + 2)) 128 191 && wi (atB s (i + 3)) 128 191) := by
  have e : tlI s ((i : Int) + 2) ((i : Int) + 4) = tlN s (i + 2) 2 := by unfold tlI; congr 1 <;> omega
  rw [e]; simp [tlN, atI]; rfl
/-- What the code point takes, way by way. -/
theorem atI_nat (s : ByteArray) (i : Nat) : atI s (i : Int) = (atB s i : Int) := rfl
theorem atI_succ (s : ByteArray) (i : Nat) : atI s ((i : Int) + 1) = (atB s (i + 1) : Int) := rfl
theorem point_is0 (s : ByteArray) (i : Nat) (lo : (0 : Int) ≤ atI s i) (hi : atI s i ≤ 127)  : point s i = 1 := by
  rw [atI_nat] at lo hi
  unfold point pt
  rw [if_pos (by omega)]
theorem point_is1 (s : ByteArray) (i : Nat) (lo : (128 : Int) ≤ atI s i) (hi : atI s i ≤ 193)  : point s i = 0 := by
  rw [atI_nat] at lo hi
  unfold point pt
  rw [if_neg (by omega), if_neg (by omega), if_neg (by omega), if_neg (by omega)]
theorem point_is2 (s : ByteArray) (i : Nat) (lo : (194 : Int) ≤ atI s i) (hi : atI s i ≤ 223) (t0 : tlI s ((i : Int) + 1) ((i : Int) + 2) = true) : point s i = 2 := by
  rw [tl12] at t0
  simp only [wi, Bool.and_eq_true, Bool.and_eq_false_iff, decide_eq_true_eq, decide_eq_false_iff_not] at t0
  rw [atI_nat] at lo hi
  unfold point pt
  rw [if_neg (by omega), if_pos (by omega)]
theorem point_is3 (s : ByteArray) (i : Nat) (lo : (194 : Int) ≤ atI s i) (hi : atI s i ≤ 223) (t0 : tlI s ((i : Int) + 1) ((i : Int) + 2) = false) : point s i = 0 := by
  rw [tl12] at t0
  simp only [wi, Bool.and_eq_true, Bool.and_eq_false_iff, decide_eq_true_eq, decide_eq_false_iff_not] at t0
  rw [atI_nat] at lo hi
  unfold point pt
  rw [if_neg (by omega), if_neg (by omega), if_neg (by omega), if_neg (by omega)]
theorem point_is4 (s : ByteArray) (i : Nat) (lo : (224 : Int) ≤ atI s i) (hi : atI s i ≤ 224) (t0 : wi (atI s ((i : Int) + 1)) 160 191 = true) (t1 : tlI s ((i : Int) + 2) ((i : Int) + 3) = true) : point s i = 3 := by
  rw [atI_succ] at t0
  rw [tl23] at t1
  simp only [wi, Bool.and_eq_true, Bool.and_eq_false_iff, decide_eq_true_eq, decide_eq_false_iff_not] at t0 t1
  rw [atI_nat] at lo hi
  unfold point pt
  rw [if_neg (by omega), if_neg (by omega), if_pos (by omega)]
theorem point_is5 (s : ByteArray) (i : Nat) (lo : (224 : Int) ≤ atI s i) (hi : atI s i ≤ 224) (t0 : wi (atI s ((i : Int) + 1)) 160 191 = true) (t1 : tlI s ((i : Int) + 2) ((i : Int) + 3) = false) : point s i = 0 := by
  rw [atI_succ] at t0
  rw [tl23] at t1
  simp only [wi, Bool.and_eq_true, Bool.and_eq_false_iff, decide_eq_true_eq, decide_eq_false_iff_not] at t0 t1
  rw [atI_nat] at lo hi
  unfold point pt
  rw [if_neg (by omega), if_neg (by omega), if_neg (by omega), if_neg (by omega)]
theorem point_is6 (s : ByteArray) (i : Nat) (lo : (224 : Int) ≤ atI s i) (hi : atI s i ≤ 224) (t0 : wi (atI s ((i : Int) + 1)) 160 191 = false) : point s i = 0 := by
  rw [atI_succ] at t0
  simp only [wi, Bool.and_eq_true, Bool.and_eq_false_iff, decide_eq_true_eq, decide_eq_false_iff_not] at t0
  rw [atI_nat] at lo hi
  unfold point pt
  rw [if_neg (by omega), if_neg (by omega), if_neg (by omega), if_neg (by omega)]
theorem point_is7 (s : ByteArray) (i : Nat) (lo : (225 : Int) ≤ atI s i) (hi : atI s i ≤ 236) (t0 : tlI s ((i : Int) + 1) ((i : Int) + 3) = true) : point s i = 3 := by
  rw [tl13] at t0
  simp only [wi, Bool.and_eq_true, Bool.and_eq_false_iff, decide_eq_true_eq, decide_eq_false_iff_not] at t0
  rw [atI_nat] at lo hi
  unfold point pt
  rw [if_neg (by omega), if_neg (by omega), if_pos (by omega)]
theorem point_is8 (s : ByteArray) (i : Nat) (lo : (225 : Int) ≤ atI s i) (hi : atI s i ≤ 236) (t0 : tlI s ((i : Int) + 1) ((i : Int) + 3) = false) : point s i = 0 := by
  rw [tl13] at t0
  simp only [wi, Bool.and_eq_true, Bool.and_eq_false_iff, decide_eq_true_eq, decide_eq_false_iff_not] at t0
  rw [atI_nat] at lo hi
  unfold point pt
  rw [if_neg (by omega), if_neg (by omega), if_neg (by omega), if_neg (by omega)]
theorem point_is9 (s : ByteArray) (i : Nat) (lo : (237 : Int) ≤ atI s i) (hi : atI s i ≤ 237) (t0 : wi (atI s ((i : Int) + 1)) 128 159 = true) (t1 : tlI s ((i : Int) + 2) ((i : Int) + 3) = true) : point s i = 3 := by
  rw [atI_succ] at t0
  rw [tl23] at t1
  simp only [wi, Bool.and_eq_true, Bool.and_eq_false_iff, decide_eq_true_eq, decide_eq_false_iff_not] at t0 t1
  rw [atI_nat] at lo hi
  unfold point pt
  rw [if_neg (by omega), if_neg (by omega), if_pos (by omega)]
theorem point_is10 (s : ByteArray) (i : Nat) (lo : (237 : Int) ≤ atI s i) (hi : atI s i ≤ 237) (t0 : wi (atI s ((i : Int) + 1)) 128 159 = true) (t1 : tlI s ((i : Int) + 2) ((i : Int) + 3) = false) : point s i = 0 := by
  rw [atI_succ] at t0
  rw [tl23] at t1
  simp only [wi, Bool.and_eq_true, Bool.and_eq_false_iff, decide_eq_true_eq, decide_eq_false_iff_not] at t0 t1
  rw [atI_nat] at lo hi
  unfold point pt
  rw [if_neg (by omega), if_neg (by omega), if_neg (by omega), if_neg (by omega)]
theorem point_is11 (s : ByteArray) (i : Nat) (lo : (237 : Int) ≤ atI s i) (hi : atI s i ≤ 237) (t0 : wi (atI s ((i : Int) + 1)) 128 159 = false) : point s i = 0 := by
  rw [atI_succ] at t0
  simp only [wi, Bool.and_eq_true, Bool.and_eq_false_iff, decide_eq_true_eq, decide_eq_false_iff_not] at t0
  rw [atI_nat] at lo hi
  unfold point pt
  rw [if_neg (by omega), if_neg (by omega), if_neg (by omega), if_neg (by omega)]
theorem point_is12 (s : ByteArray) (i : Nat) (lo : (238 : Int) ≤ atI s i) (hi : atI s i ≤ 239) (t0 : tlI s ((i : Int) + 1) ((i : Int) + 3) = true) : point s i = 3 := by
  rw [tl13] at t0
  simp only [wi, Bool.and_eq_true, Bool.and_eq_false_iff, decide_eq_true_eq, decide_eq_false_iff_not] at t0
  rw [atI_nat] at lo hi
  unfold point pt
  rw [if_neg (by omega), if_neg (by omega), if_pos (by omega)]
theorem point_is13 (s : ByteArray) (i : Nat) (lo : (238 : Int) ≤ atI s i) (hi : atI s i ≤ 239) (t0 : tlI s ((i : Int) + 1) ((i : Int) + 3) = false) : point s i = 0 := by
  rw [tl13] at t0
  simp only [wi, Bool.and_eq_true, Bool.and_eq_false_iff, decide_eq_true_eq, decide_eq_false_iff_not] at t0
  rw [atI_nat] at lo hi
  unfold point pt
  rw [if_neg (by omega), if_neg (by omega), if_neg (by omega), if_neg (by omega)]
theorem point_is14 (s : ByteArray) (i : Nat) (lo : (240 : Int) ≤ atI s i) (hi : atI s i ≤ 240) (t0 : wi (atI s ((i : Int) + 1)) 144 191 = true) (t1 : tlI s ((i : Int) + 2) ((i : Int) + 4) = true) : point s i = 4 := by
  rw [atI_succ] at t0
  rw [tl24] at t1
  simp only [wi, Bool.and_eq_true, Bool.and_eq_false_iff, decide_eq_true_eq, decide_eq_false_iff_not] at t0 t1
  rw [atI_nat] at lo hi
  unfold point pt
  rw [if_neg (by omega), if_neg (by omega), if_neg (by omega), if_pos (by omega)]
theorem point_is15 (s : ByteArray) (i : Nat) (lo : (240 : Int) ≤ atI s i) (hi : atI s i ≤ 240) (t0 : wi (atI s ((i : Int) + 1)) 144 191 = true) (t1 : tlI s ((i : Int) + 2) ((i : Int) + 4) = false) : point s i = 0 := by
  rw [atI_succ] at t0
  rw [tl24] at t1
  simp only [wi, Bool.and_eq_true, Bool.and_eq_false_iff, decide_eq_true_eq, decide_eq_false_iff_not] at t0 t1
  rw [atI_nat] at lo hi
  unfold point pt
  rw [if_neg (by omega), if_neg (by omega), if_neg (by omega), if_neg (by omega)]
theorem point_is16 (s : ByteArray) (i : Nat) (lo : (240 : Int) ≤ atI s i) (hi : atI s i ≤ 240) (t0 : wi (atI s ((i : Int) + 1)) 144 191 = false) : point s i = 0 := by
  rw [atI_succ] at t0
  simp only [wi, Bool.and_eq_true, Bool.and_eq_false_iff, decide_eq_true_eq, decide_eq_false_iff_not] at t0
  rw [atI_nat] at lo hi
  unfold point pt
  rw [if_neg (by omega), if_neg (by omega), if_neg (by omega), if_neg (by omega)]
theorem point_is17 (s : ByteArray) (i : Nat) (lo : (241 : Int) ≤ atI s i) (hi : atI s i ≤ 243) (t0 : tlI s ((i : Int) + 1) ((i : Int) + 4) = true) : point s i = 4 := by
  rw [tl14] at t0
  simp only [wi, Bool.and_eq_true, Bool.and_eq_false_iff, decide_eq_true_eq, decide_eq_false_iff_not] at t0
  rw [atI_nat] at lo hi
  unfold point pt
  rw [if_neg (by omega), if_neg (by omega), if_neg (by omega), if_pos (by omega)]
theorem point_is18 (s : ByteArray) (i : Nat) (lo : (241 : Int) ≤ atI s i) (hi : atI s i ≤ 243) (t0 : tlI s ((i : Int) + 1) ((i : Int) + 4) = false) : point s i = 0 := by
  rw [tl14] at t0
  simp only [wi, Bool.and_eq_true, Bool.and_eq_false_iff, decide_eq_true_eq, decide_eq_false_iff_not] at t0
  rw [atI_nat] at lo hi
  unfold point pt
  rw [if_neg (by omega), if_neg (by omega), if_neg (by omega), if_neg (by omega)]
theorem point_is19 (s : ByteArray) (i : Nat) (lo : (244 : Int) ≤ atI s i) (hi : atI s i ≤ 244) (t0 : wi (atI s ((i : Int) + 1)) 128 143 = true) (t1 : tlI s ((i : Int) + 2) ((i : Int) + 4) = true) : point s i = 4 := by
  rw [atI_succ] at t0
  rw [tl24] at t1
  simp only [wi, Bool.and_eq_true, Bool.and_eq_false_iff, decide_eq_true_eq, decide_eq_false_iff_not] at t0 t1
  rw [atI_nat] at lo hi
  unfold point pt
  rw [if_neg (by omega), if_neg (by omega), if_neg (by omega), if_pos (by omega)]
theorem point_is20 (s : ByteArray) (i : Nat) (lo : (244 : Int) ≤ atI s i) (hi : atI s i ≤ 244) (t0 : wi (atI s ((i : Int) + 1)) 128 143 = true) (t1 : tlI s ((i : Int) + 2) ((i : Int) + 4) = false) : point s i = 0 := by
  rw [atI_succ] at t0
  rw [tl24] at t1
  simp only [wi, Bool.and_eq_true, Bool.and_eq_false_iff, decide_eq_true_eq, decide_eq_false_iff_not] at t0 t1
  rw [atI_nat] at lo hi
  unfold point pt
  rw [if_neg (by omega), if_neg (by omega), if_neg (by omega), if_neg (by omega)]
theorem point_is21 (s : ByteArray) (i : Nat) (lo : (244 : Int) ≤ atI s i) (hi : atI s i ≤ 244) (t0 : wi (atI s ((i : Int) + 1)) 128 143 = false) : point s i = 0 := by
  rw [atI_succ] at t0
  simp only [wi, Bool.and_eq_true, Bool.and_eq_false_iff, decide_eq_true_eq, decide_eq_false_iff_not] at t0
  rw [atI_nat] at lo hi
  unfold point pt
  rw [if_neg (by omega), if_neg (by omega), if_neg (by omega), if_neg (by omega)]
theorem point_is22 (s : ByteArray) (i : Nat) (lo : (245 : Int) ≤ atI s i) (hi : atI s i ≤ 255)  : point s i = 0 := by
  rw [atI_nat] at lo hi
  unfold point pt
  rw [if_neg (by omega), if_neg (by omega), if_neg (by omega), if_neg (by omega)]

theorem point_any (s : ByteArray) (i : Nat) (hb : i ≤ 1000000) (w : World) :
    Calls Tryz.prog 125 #[.string s, .int .i64 i] w fun e w' => e = .returned (.int .i64 (point s i)) ∧ w' = w := by
  have h0 : (0 : Int) ≤ atI s i := by rw [atI_nat]; omega
  have h1 : atI s i ≤ 255 := by rw [atI_nat]; have := atB_lt s i; omega
  by_cases k127 : atI s i ≤ 127
  · rw [point_is0 s i (by omega) (by omega)]
    exact point_way0 s i hb (by omega) (by omega) w
  by_cases k193 : atI s i ≤ 193
  · rw [point_is1 s i (by omega) (by omega)]
    exact point_way1 s i hb (by omega) (by omega) w
  by_cases k223 : atI s i ≤ 223
  · by_cases t223 : tlI s ((i : Int) + 1) ((i : Int) + 2) = true
    · rw [point_is2 s i (by omega) (by omega) t223]
      exact point_way2 s i hb (by omega) (by omega) t223 w
    · rw [point_is3 s i (by omega) (by omega) (by simpa using t223)]
      exact point_way3 s i hb (by omega) (by omega) (by simpa using t223) w
  by_cases k224 : atI s i ≤ 224
  · by_cases d224 : wi (atI s ((i : Int) + 1)) 160 191 = true
    · by_cases t224 : tlI s ((i : Int) + 2) ((i : Int) + 3) = true
      · rw [point_is4 s i (by omega) (by omega) d224 t224]
        exact point_way4 s i hb (by omega) (by omega) d224 t224 w
      · rw [point_is5 s i (by omega) (by omega) d224 (by simpa using t224)]
        exact point_way5 s i hb (by omega) (by omega) d224 (by simpa using t224) w
    · rw [point_is6 s i (by omega) (by omega) (by simpa using d224)]
      exact point_way6 s i hb (by omega) (by omega) (by simpa using d224) w
  by_cases k236 : atI s i ≤ 236
  · by_cases t236 : tlI s ((i : Int) + 1) ((i : Int) + 3) = true
    · rw [point_is7 s i (by omega) (by omega) t236]
      exact point_way7 s i hb (by omega) (by omega) t236 w
    · rw [point_is8 s i (by omega) (by omega) (by simpa using t236)]
      exact point_way8 s i hb (by omega) (by omega) (by simpa using t236) w
  by_cases k237 : atI s i ≤ 237
  · by_cases d237 : wi (atI s ((i : Int) + 1)) 128 159 = true
    · by_cases t237 : tlI s ((i : Int) + 2) ((i : Int) + 3) = true
      · rw [point_is9 s i (by omega) (by omega) d237 t237]
        exact point_way9 s i hb (by omega) (by omega) d237 t237 w
      · rw [point_is10 s i (by omega) (by omega) d237 (by simpa using t237)]
        exact point_way10 s i hb (by omega) (by omega) d237 (by simpa using t237) w
    · rw [point_is11 s i (by omega) (by omega) (by simpa using d237)]
      exact point_way11 s i hb (by omega) (by omega) (by simpa using d237) w
  by_cases k239 : atI s i ≤ 239
  · by_cases t239 : tlI s ((i : Int) + 1) ((i : Int) + 3) = true
    · rw [point_is12 s i (by omega) (by omega) t239]
      exact point_way12 s i hb (by omega) (by omega) t239 w
    · rw [point_is13 s i (by omega) (by omega) (by simpa using t239)]
      exact point_way13 s i hb (by omega) (by omega) (by simpa using t239) w
  by_cases k240 : atI s i ≤ 240
  · by_cases d240 : wi (atI s ((i : Int) + 1)) 144 191 = true
    · by_cases t240 : tlI s ((i : Int) + 2) ((i : Int) + 4) = true
      · rw [point_is14 s i (by omega) (by omega) d240 t240]
        exact point_way14 s i hb (by omega) (by omega) d240 t240 w
      · rw [point_is15 s i (by omega) (by omega) d240 (by simpa using t240)]
        exact point_way15 s i hb (by omega) (by omega) d240 (by simpa using t240) w
    · rw [point_is16 s i (by omega) (by omega) (by simpa using d240)]
      exact point_way16 s i hb (by omega) (by omega) (by simpa using d240) w
  by_cases k243 : atI s i ≤ 243
  · by_cases t243 : tlI s ((i : Int) + 1) ((i : Int) + 4) = true
    · rw [point_is17 s i (by omega) (by omega) t243]
      exact point_way17 s i hb (by omega) (by omega) t243 w
    · rw [point_is18 s i (by omega) (by omega) (by simpa using t243)]
      exact point_way18 s i hb (by omega) (by omega) (by simpa using t243) w
  by_cases k244 : atI s i ≤ 244
  · by_cases d244 : wi (atI s ((i : Int) + 1)) 128 143 = true
    · by_cases t244 : tlI s ((i : Int) + 2) ((i : Int) + 4) = true
      · rw [point_is19 s i (by omega) (by omega) d244 t244]
        exact point_way19 s i hb (by omega) (by omega) d244 t244 w
      · rw [point_is20 s i (by omega) (by omega) d244 (by simpa using t244)]
        exact point_way20 s i hb (by omega) (by omega) d244 (by simpa using t244) w
    · rw [point_is21 s i (by omega) (by omega) (by simpa using d244)]
      exact point_way21 s i hb (by omega) (by omega) (by simpa using d244) w
  rw [point_is22 s i (by omega) (by omega)]
  exact point_way22 s i hb (by omega) (by omega) w
end Go.Proofs.YtkjeneklkdekoaaGreatDoor.Rm
namespace Go.Proofs.YtkjeneklkdekoaaGreatDoor.Rm
open Go.RowKit
set_option linter.unusedSimpArgs false
set_option linter.unusedVariables false

/-- What Check tells from a place on, in so many steps at most. -/
def chkF (s : ByteArray) : Nat → Nat → Nat × Nat
  | 0, _ => (0, 0)
  | b + 1, k => if k < s.size then (if atB s k = 0 then (k, 14) else if point s k = 0 then (k, 13) else chkF s b (k + point s k)) else (0, 0)
/-- What Check tells. -/
def chk (s : ByteArray) : Nat × Nat := if 65535 < s.size then (65535, 11) else chkF s s.size 0

theorem chkF_end (s : ByteArray) (b k : Nat) (h : ¬ k < s.size) : chkF s b k = (0, 0) := by
  cases b with
  | zero => rfl
  | succ b => simp [chkF, h]
theorem chkF_zero (s : ByteArray) (b k : Nat) (h : k < s.size) (hb : s.size ≤ k + b) (hz : atB s k = 0) : chkF s b k = (k, 14) := by
  cases b with
  | zero => omega
  | succ b => simp [chkF, h, hz]
theorem chkF_utf (s : ByteArray) (b k : Nat) (h : k < s.size) (hb : s.size ≤ k + b) (hz : ¬ atB s k = 0) (hp : point s k = 0) : chkF s b k = (k, 13) := by
  cases b with
  | zero => omega
  | succ b => simp [chkF, h, hz, hp]
theorem chkF_step (s : ByteArray) (b k : Nat) (h : k < s.size) (hb : s.size ≤ k + b) (hz : ¬ atB s k = 0) (hp : ¬ point s k = 0) : ∃ b', chkF s b k = chkF s b' (k + point s k) ∧ s.size ≤ k + point s k + b' := by
  cases b with
  | zero => omega
  | succ b => exact ⟨b, by simp [chkF, h, hz, hp], by omega⟩

set_option maxHeartbeats 400000 in
theorem ref_any (s : ByteArray) (w : World) :
    Calls Tryz.prog 85 #[.string s] w fun e w' => e = .returned (.tuple #[.int .i64 (chk s).1, .int .i64 (chk s).2]) ∧ w' = w := by
  by_cases hl : 65535 < s.size
  · have e : chk s = (65535, 11) := by simp [chk, hl]
    rw [e]
    clear e
    have hl' : (65535 : Int) < s.size := by omega
    go_enter Tryz.func85, Tryz.ntmps85
    go_wp2
    go_ret2
    exact ⟨rfl, rfl⟩
  · have HE : Hid (chk s = chkF s s.size 0) := by simp [chk, hl, Hid]
    have hl' : ¬ (65535 : Int) < s.size := by omega
    have hs : s.size ≤ 65535 := by omega
    go_enter Tryz.func85, Tryz.ntmps85
    go_wp2
    go_loop [4] (fun i => ∃ k b : Nat, k ≤ s.size ∧ i = .int .i64 k ∧ chk s = chkF s b k ∧ s.size ≤ k + b) (fun i => s.size - (intOf i).toNat)
    case atStart => exact ⟨0, s.size, Nat.zero_le _, rfl, HE.out, by omega⟩
    case round =>
      obtain ⟨k, b, hk, rfl, hc, hb⟩ := hrel
      have HC : Hid (chk s = chkF s b k) := hc
      clear hc
      by_cases hlt : k < s.size
      · have hat := atB_in s k hlt
        have HA : Hid (atB s k = (s[k]'hlt).toNat) := hat
        clear hat
        by_cases hz : (s[k]'hlt).toNat = 0
        · have hz' : (((s[k]'hlt).toNat : Int) == 0) = true := by simp [hz]
          have HR : Hid (chk s = (k, 14)) := by have h1 := HC.out; rw [chkF_zero s b k hlt hb (by rw [HA.out]; exact hz)] at h1; exact h1
          clear hz
          go_wp2
          go_ret2
          exact ⟨by rw [HR.out]; rfl, rfl⟩
        · have hz' : (((s[k]'hlt).toNat : Int) == 0) = false := by simp; omega
          have HZ : Hid (¬ atB s k = 0) := by have h1 := HA.out; show ¬ atB s k = 0; rw [h1]; exact hz
          clear hz
          by_cases hp : point s k = 0
          · have hp' : ((point s k : Int) == 0) = true := by simp [hp]
            have HR : Hid (chk s = (k, 13)) := by have h1 := HC.out; rw [chkF_utf s b k hlt hb HZ.out hp] at h1; exact h1
            clear hp
            go_wp2_with (go_at_call 125; refine (point_any _ _ (by omega) _).mono ?_; rintro e w' ⟨rfl, rfl⟩)
            go_ret2
            exact ⟨by rw [HR.out]; rfl, rfl⟩
          · have hp' : ((point s k : Int) == 0) = false := by simp; omega
            have hple := point_le s k hlt
            have HP : Hid (¬ point s k = 0) := hp
            clear hp
            go_wp2_with (go_at_call 125; refine (point_any _ _ (by omega) _).mono ?_; rintro e w' ⟨rfl, rfl⟩)
            go_round
            case rel =>
              obtain ⟨b', e1, e2⟩ := chkF_step s b k hlt hb HZ.out HP.out
              exact ⟨k + point s k, b', hple, by go_num, HC.out.trans e1, e2⟩
            case measure => have h1 := HP.out; simp [intOf]; omega
      · have HR : Hid (chk s = (0, 0)) := by have h1 := HC.out; rw [chkF_end s b k hlt] at h1; exact h1
        go_wp2
        go_ret2
        exact ⟨by rw [HR.out]; rfl, rfl⟩
end Go.Proofs.YtkjeneklkdekoaaGreatDoor.Rm
