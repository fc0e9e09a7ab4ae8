import Derived.Test.YtkjeneklkdekoaaGreatDoorMWone
namespace Go.Proofs.YtkjeneklkdekoaaGreatDoor.Rm
open Go.RowKit
set_option linter.unusedSimpArgs false
set_option linter.unusedVariables false

set_option maxHeartbeats 400000 in
theorem point_way0 (s : ByteArray) (i : Nat) (hb : i ≤ 1000000) (_lo : (0 : Int) ≤ atI s i) (hi : atI s i ≤ 127)  (w : World) :
    Calls Tryz.prog 125 #[.string s, .int .i64 i] w fun e w' => e = .returned (.int .i64 1) ∧ w' = w := by
  go_enter Tryz.func125, Tryz.ntmps125
  go_wp2_with (first | (go_at_call 135; refine (at_any _ _ (by omega) _).mono ?_; rintro e w' ⟨rfl, rfl⟩) | (go_at_call 136; refine (within_any _ _ _ _).mono ?_; rintro e w' ⟨rfl, rfl⟩) | (go_at_call 137; refine (tail_any _ _ _ (by omega) (by omega) (by omega) _).mono ?_; rintro e w' ⟨rfl, rfl⟩))
  go_ret
  exact ⟨rfl, rfl⟩

set_option maxHeartbeats 400000 in
theorem point_way1 (s : ByteArray) (i : Nat) (hb : i ≤ 1000000) (lo : (128 : Int) ≤ atI s i) (hi : atI s i ≤ 193)  (w : World) :
    Calls Tryz.prog 125 #[.string s, .int .i64 i] w fun e w' => e = .returned (.int .i64 0) ∧ w' = w := by
  have x0 : ¬ atI s i ≤ 127 := by omega
  have y0 : wi (atI s i) 194 223 = false := by simp [wi]; omega
  have y1 : wi (atI s i) 225 236 = false := by simp [wi]; omega
  have y2 : wi (atI s i) 238 239 = false := by simp [wi]; omega
  have y3 : wi (atI s i) 241 243 = false := by simp [wi]; omega
  have z0 : (atI s i == 224) = false := by simp; omega
  have z1 : (atI s i == 237) = false := by simp; omega
  have z2 : (atI s i == 240) = false := by simp; omega
  have z3 : (atI s i == 244) = false := by simp; omega
  clear lo hi
  go_enter Tryz.func125, Tryz.ntmps125
  go_wp2_with (first | (go_at_call 135; refine (at_any _ _ (by omega) _).mono ?_; rintro e w' ⟨rfl, rfl⟩) | (go_at_call 136; refine (within_any _ _ _ _).mono ?_; rintro e w' ⟨rfl, rfl⟩) | (go_at_call 137; refine (tail_any _ _ _ (by omega) (by omega) (by omega) _).mono ?_; rintro e w' ⟨rfl, rfl⟩))
  go_ret
  exact ⟨rfl, rfl⟩

set_option maxHeartbeats 400000 in
theorem point_way2 (s : ByteArray) (i : Nat) (hb : i ≤ 1000000) (lo : (194 : Int) ≤ atI s i) (hi : atI s i ≤ 223) (t0 : tlI s ((i : Int) + 1) ((i : Int) + 2) = true) (w : World) :
    Calls Tryz.prog 125 #[.string s, .int .i64 i] w fun e w' => e = .returned (.int .i64 2) ∧ w' = w := by
  have x0 : ¬ atI s i ≤ 127 := by omega
  have y0 : wi (atI s i) 194 223 = true := by simp [wi]; omega
  have y1 : wi (atI s i) 225 236 = false := by simp [wi]; omega
  have y2 : wi (atI s i) 238 239 = false := by simp [wi]; omega
  have y3 : wi (atI s i) 241 243 = false := by simp [wi]; omega
  have z0 : (atI s i == 224) = false := by simp; omega
  have z1 : (atI s i == 237) = false := by simp; omega
  have z2 : (atI s i == 240) = false := by simp; omega
  have z3 : (atI s i == 244) = false := by simp; omega
  clear lo hi
  go_enter Tryz.func125, Tryz.ntmps125
  go_wp2_with (first | (go_at_call 135; refine (at_any _ _ (by omega) _).mono ?_; rintro e w' ⟨rfl, rfl⟩) | (go_at_call 136; refine (within_any _ _ _ _).mono ?_; rintro e w' ⟨rfl, rfl⟩) | (go_at_call 137; refine (tail_any _ _ _ (by omega) (by omega) (by omega) _).mono ?_; rintro e w' ⟨rfl, rfl⟩))
  go_ret
  exact ⟨rfl, rfl⟩

set_option maxHeartbeats 400000 in
theorem point_way3 (s : ByteArray) (i : Nat) (hb : i ≤ 1000000) (lo : (194 : Int) ≤ atI s i) (hi : atI s i ≤ 223) (t0 : tlI s ((i : Int) + 1) ((i : Int) + 2) = false) (w : World) :
    Calls Tryz.prog 125 #[.string s, .int .i64 i] w fun e w' => e = .returned (.int .i64 0) ∧ w' = w := by
  have x0 : ¬ atI s i ≤ 127 := by omega
  have y0 : wi (atI s i) 194 223 = true := by simp [wi]; omega
  have y1 : wi (atI s i) 225 236 = false := by simp [wi]; omega
  have y2 : wi (atI s i) 238 239 = false := by simp [wi]; omega
  have y3 : wi (atI s i) 241 243 = false := by simp [wi]; omega
  have z0 : (atI s i == 224) = false := by simp; omega
  have z1 : (atI s i == 237) = false := by simp; omega
  have z2 : (atI s i == 240) = false := by simp; omega
  have z3 : (atI s i == 244) = false := by simp; omega
  clear lo hi
  go_enter Tryz.func125, Tryz.ntmps125
  go_wp2_with (first | (go_at_call 135; refine (at_any _ _ (by omega) _).mono ?_; rintro e w' ⟨rfl, rfl⟩) | (go_at_call 136; refine (within_any _ _ _ _).mono ?_; rintro e w' ⟨rfl, rfl⟩) | (go_at_call 137; refine (tail_any _ _ _ (by omega) (by omega) (by omega) _).mono ?_; rintro e w' ⟨rfl, rfl⟩))
  go_ret
  exact ⟨rfl, rfl⟩

set_option maxHeartbeats 400000 in
theorem point_way4 (s : ByteArray) (i : Nat) (hb : i ≤ 1000000) (lo : (224 : Int) ≤ atI s i) (hi : atI s i ≤ 224) (t0 : wi (atI s ((i : Int) + 1)) 160 191 = true) (t1 : tlI s ((i : Int) + 2) ((i : Int) + 3) = true) (w : World) :
    Calls Tryz.prog 125 #[.string s, .int .i64 i] w fun e w' => e = .returned (.int .i64 3) ∧ w' = w := by
  have x0 : ¬ atI s i ≤ 127 := by omega
  have y0 : wi (atI s i) 194 223 = false := by simp [wi]; omega
  have y1 : wi (atI s i) 225 236 = false := by simp [wi]; omega
  have y2 : wi (atI s i) 238 239 = false := by simp [wi]; omega
  have y3 : wi (atI s i) 241 243 = false := by simp [wi]; omega
  have z0 : (atI s i == 224) = true := by simp; omega
  have z1 : (atI s i == 237) = false := by simp; omega
  have z2 : (atI s i == 240) = false := by simp; omega
  have z3 : (atI s i == 244) = false := by simp; omega
  clear lo hi
  go_enter Tryz.func125, Tryz.ntmps125
  go_wp2_with (first | (go_at_call 135; refine (at_any _ _ (by omega) _).mono ?_; rintro e w' ⟨rfl, rfl⟩) | (go_at_call 136; refine (within_any _ _ _ _).mono ?_; rintro e w' ⟨rfl, rfl⟩) | (go_at_call 137; refine (tail_any _ _ _ (by omega) (by omega) (by omega) _).mono ?_; rintro e w' ⟨rfl, rfl⟩))
  go_ret
  exact ⟨rfl, rfl⟩

set_option maxHeartbeats 400000 in
theorem point_way5 (s : ByteArray) (i : Nat) (hb : i ≤ 1000000) (lo : (224 : Int) ≤ atI s i) (hi : atI s i ≤ 224) (t0 : wi (atI s ((i : Int) + 1)) 160 191 = true) (t1 : tlI s ((i : Int) + 2) ((i : Int) + 3) = false) (w : World) :
    Calls Tryz.prog 125 #[.string s, .int .i64 i] w fun e w' => e = .returned (.int .i64 0) ∧ w' = w := by
  have x0 : ¬ atI s i ≤ 127 := by omega
  have y0 : wi (atI s i) 194 223 = false := by simp [wi]; omega
  have y1 : wi (atI s i) 225 236 = false := by simp [wi]; omega
  have y2 : wi (atI s i) 238 239 = false := by simp [wi]; omega
  have y3 : wi (atI s i) 241 243 = false := by simp [wi]; omega
  have z0 : (atI s i == 224) = true := by simp; omega
  have z1 : (atI s i == 237) = false := by simp; omega
  have z2 : (atI s i == 240) = false := by simp; omega
  have z3 : (atI s i == 244) = false := by simp; omega
  clear lo hi
  go_enter Tryz.func125, Tryz.ntmps125
  go_wp2_with (first | (go_at_call 135; refine (at_any _ _ (by omega) _).mono ?_; rintro e w' ⟨rfl, rfl⟩) | (go_at_call 136; refine (within_any _ _ _ _).mono ?_; rintro e w' ⟨rfl, rfl⟩) | (go_at_call 137; refine (tail_any _ _ _ (by omega) (by omega) (by omega) _).mono ?_; rintro e w' ⟨rfl, rfl⟩))
  go_ret
  exact ⟨rfl, rfl⟩

set_option maxHeartbeats 400000 in
theorem point_way6 (s : ByteArray) (i : Nat) (hb : i ≤ 1000000) (lo : (224 : Int) ≤ atI s i) (hi : atI s i ≤ 224) (t0 : wi (atI s ((i : Int) + 1)) 160 191 = false) (w : World) :
    Calls Tryz.prog 125 #[.string s, .int .i64 i] w fun e w' => e = .returned (.int .i64 0) ∧ w' = w := by
  have x0 : ¬ atI s i ≤ 127 := by omega
  have y0 : wi (atI s i) 194 223 = false := by simp [wi]; omega
  have y1 : wi (atI s i) 225 236 = false := by simp [wi]; omega
  have y2 : wi (atI s i) 238 239 = false := by simp [wi]; omega
  have y3 : wi (atI s i) 241 243 = false := by simp [wi]; omega
  have z0 : (atI s i == 224) = true := by simp; omega
  have z1 : (atI s i == 237) = false := by simp; omega
  have z2 : (atI s i == 240) = false := by simp; omega
  have z3 : (atI s i == 244) = false := by simp; omega
  clear lo hi
  go_enter Tryz.func125, Tryz.ntmps125
  go_wp2_with (first | (go_at_call 135; refine (at_any _ _ (by omega) _).mono ?_; rintro e w' ⟨rfl, rfl⟩) | (go_at_call 136; refine (within_any _ _ _ _).mono ?_; rintro e w' ⟨rfl, rfl⟩) | (go_at_call 137; refine (tail_any _ _ _ (by omega) (by omega) (by omega) _).mono ?_; rintro e w' ⟨rfl, rfl⟩))
  go_ret
  exact ⟨rfl, rfl⟩

set_option maxHeartbeats 400000 in
theorem point_way7 (s : ByteArray) (i : Nat) (hb : i ≤ 1000000) (lo : (225 : Int) ≤ atI s i) (hi : atI s i ≤ 236) (t0 : tlI s ((i : Int) + 1) ((i : Int) + 3) = true) (w : World) :
    Calls Tryz.prog 125 #[.string s, .int .i64 i] w fun e w' => e = .returned (.int .i64 3) ∧ w' = w := by
  have x0 : ¬ atI s i ≤ 127 := by omega
  have y0 : wi (atI s i) 194 223 = false := by simp [wi]; omega
  have y1 : wi (atI s i) 225 236 = true := by simp [wi]; omega
  have y2 : wi (atI s i) 238 239 = false := by simp [wi]; omega
  have y3 : wi (atI s i) 241 243 = false := by simp [wi]; omega
  have z0 : (atI s i == 224) = false := by simp; omega
  have z1 : (atI s i == 237) = false := by simp; omega
  have z2 : (atI s i == 240) = false := by simp; omega
  have z3 : (atI s i == 244) = false := by simp; omega
  clear lo hi
  go_enter Tryz.func125, Tryz.ntmps125
  go_wp2_with (first | (go_at_call 135; refine (at_any _ _ (by omega) _).mono ?_; rintro e w' ⟨rfl, rfl⟩) | (go_at_call 136; refine (within_any _ _ _ _).mono ?_; rintro e w' ⟨rfl, rfl⟩) | (go_at_call 137; refine (tail_any _ _ _ (by omega) (by omega) (by omega) _).mono ?_; rintro e w' ⟨rfl, rfl⟩))
  go_ret
  exact ⟨rfl, rfl⟩

set_option maxHeartbeats 400000 in
theorem point_way8 (s : ByteArray) (i : Nat) (hb : i ≤ 1000000) (lo : (225 : Int) ≤ atI s i) (hi : atI s i ≤ 236) (t0 : tlI s ((i : Int) + 1) ((i : Int) + 3) = false) (w : World) :
    Calls Tryz.prog 125 #[.string s, .int .i64 i] w fun e w' => e = .returned (.int .i64 0) ∧ w' = w := by
  have x0 : ¬ atI s i ≤ 127 := by omega
  have y0 : wi (atI s i) 194 223 = false := by simp [wi]; omega
  have y1 : wi (atI s i) 225 236 = true := by simp [wi]; omega
  have y2 : wi (atI s i) 238 239 = false := by simp [wi]; omega
  have y3 : wi (atI s i) 241 243 = false := by simp [wi]; omega
  have z0 : (atI s i == 224) = false := by simp; omega
  have z1 : (atI s i == 237) = false := by simp; omega
  have z2 : (atI s i == 240) = false := by simp; omega
  have z3 : (atI s i == 244) = false := by simp; omega
  clear lo hi
  go_enter Tryz.func125, Tryz.ntmps125
  go_wp2_with (first | (go_at_call 135; refine (at_any _ _ (by omega) _).mono ?_; rintro e w' ⟨rfl, rfl⟩) | (go_at_call 136; refine (within_any _ _ _ _).mono ?_; rintro e w' ⟨rfl, rfl⟩) | (go_at_call 137; refine (tail_any _ _ _ (by omega) (by omega) (by omega) _).mono ?_; rintro e w' ⟨rfl, rfl⟩))
  go_ret
  exact ⟨rfl, rfl⟩

set_option maxHeartbeats 400000 in
theorem point_way9 (s : ByteArray) (i : Nat) (hb : i ≤ 1000000) (lo : (237 : Int) ≤ atI s i) (hi : atI s i ≤ 237) (t0 : wi (atI s ((i : Int) + 1)) 128 159 = true) (t1 : tlI s ((i : Int) + 2) ((i : Int) + 3) = true) (w : World) :
    Calls Tryz.prog 125 #[.string s, .int .i64 i] w fun e w' => e = .returned (.int .i64 3) ∧ w' = w := by
  have x0 : ¬ atI s i ≤ 127 := by omega
  have y0 : wi (atI s i) 194 223 = false := by simp [wi]; omega
  have y1 : wi (atI s i) 225 236 = false := by simp [wi]; omega
  have y2 : wi (atI s i) 238 239 = false := by simp [wi]; omega
  have y3 : wi (atI s i) 241 243 = false := by simp [wi]; omega
  have z0 : (atI s i == 224) = false := by simp; omega
  have z1 : (atI s i == 237) = true := by simp; omega
  have z2 : (atI s i == 240) = false := by simp; omega
  have z3 : (atI s i == 244) = false := by simp; omega
  clear lo hi
  go_enter Tryz.func125, Tryz.ntmps125
  go_wp2_with (first | (go_at_call 135; refine (at_any _ _ (by omega) _).mono ?_; rintro e w' ⟨rfl, rfl⟩) | (go_at_call 136; refine (within_any _ _ _ _).mono ?_; rintro e w' ⟨rfl, rfl⟩) | (go_at_call 137; refine (tail_any _ _ _ (by omega) (by omega) (by omega) _).mono ?_; rintro e w' ⟨rfl, rfl⟩))
  go_ret
  exact ⟨rfl, rfl⟩

set_option maxHeartbeats 400000 in
theorem point_way10 (s : ByteArray) (i : Nat) (hb : i ≤ 1000000) (lo : (237 : Int) ≤ atI s i) (hi : atI s i ≤ 237) (t0 : wi (atI s ((i : Int) + 1)) 128 159 = true) (t1 : tlI s ((i : Int) + 2) ((i : Int) + 3) = false) (w : World) :
    Calls Tryz.prog 125 #[.string s, .int .i64 i] w fun e w' => e = .returned (.int .i64 0) ∧ w' = w := by
  have x0 : ¬ atI s i ≤ 127 := by omega
  have y0 : wi (atI s i) 194 223 = false := by simp [wi]; omega
  have y1 : wi (atI s i) 225 236 = false := by simp [wi]; omega
  have y2 : wi (atI s i) 238 239 = false := by simp [wi]; omega
  have y3 : wi (atI s i) 241 243 = false := by simp [wi]; omega
  have z0 : (atI s i == 224) = false := by simp; omega
  have z1 : (atI s i == 237) = true := by simp; omega
  have z2 : (atI s i == 240) = false := by simp; omega
  have z3 : (atI s i == 244) = false := by simp; omega
  clear lo hi
  go_enter Tryz.func125, Tryz.ntmps125
  go_wp2_with (first | (go_at_call 135; refine (at_any _ _ (by omega) _).mono ?_; rintro e w' ⟨rfl, rfl⟩) | (go_at_call 136; refine (within_any _ _ _ _).mono ?_; rintro e w' ⟨rfl, rfl⟩) | (go_at_call 137; refine (tail_any _ _ _ (by omega) (by omega) (by omega) _).mono ?_; rintro e w' ⟨rfl, rfl⟩))
  go_ret
  exact ⟨rfl, rfl⟩

set_option maxHeartbeats 400000 in
theorem point_way11 (s : ByteArray) (i : Nat) (hb : i ≤ 1000000) (lo : (237 : Int) ≤ atI s i) (hi : atI s i ≤ 237) (t0 : wi (atI s ((i : Int) + 1)) 128 159 = false) (w : World) :
    Calls Tryz.prog 125 #[.string s, .int .i64 i] w fun e w' => e = .returned (.int .i64 0) ∧ w' = w := by
  have x0 : ¬ atI s i ≤ 127 := by omega
  have y0 : wi (atI s i) 194 223 = false := by simp [wi]; omega
  have y1 : wi (atI s i) 225 236 = false := by simp [wi]; omega
  have y2 : wi (atI s i) 238 239 = false := by simp [wi]; omega
  have y3 : wi (atI s i) 241 243 = false := by simp [wi]; omega
  have z0 : (atI s i == 224) = false := by simp; omega
  have z1 : (atI s i == 237) = true := by simp; omega
  have z2 : (atI s i == 240) = false := by simp; omega
  have z3 : (atI s i == 244) = false := by simp; omega
  clear lo hi
  go_enter Tryz.func125, Tryz.ntmps125
  go_wp2_with (first | (go_at_call 135; refine (at_any _ _ (by omega) _).mono ?_; rintro e w' ⟨rfl, rfl⟩) | (go_at_call 136; refine (within_any _ _ _ _).mono ?_; rintro e w' ⟨rfl, rfl⟩) | (go_at_call 137; refine (tail_any _ _ _ (by omega) (by omega) (by omega) _).mono ?_; rintro e w' ⟨rfl, rfl⟩))
  go_ret
  exact ⟨rfl, rfl⟩

set_option maxHeartbeats 400000 in
theorem point_way12 (s : ByteArray) (i : Nat) (hb : i ≤ 1000000) (lo : (238 : Int) ≤ atI s i) (hi : atI s i ≤ 239) (t0 : tlI s ((i : Int) + 1) ((i : Int) + 3) = true) (w : World) :
    Calls Tryz.prog 125 #[.string s, .int .i64 i] w fun e w' => e = .returned (.int .i64 3) ∧ w' = w := by
  have x0 : ¬ atI s i ≤ 127 := by omega
  have y0 : wi (atI s i) 194 223 = false := by simp [wi]; omega
  have y1 : wi (atI s i) 225 236 = false := by simp [wi]; omega
  have y2 : wi (atI s i) 238 239 = true := by simp [wi]; omega
  have y3 : wi (atI s i) 241 243 = false := by simp [wi]; omega
  have z0 : (atI s i == 224) = false := by simp; omega
  have z1 : (atI s i == 237) = false := by simp; omega
  have z2 : (atI s i == 240) = false := by simp; omega
  have z3 : (atI s i == 244) = false := by simp; omega
  clear lo hi
  go_enter Tryz.func125, Tryz.ntmps125
  go_wp2_with (first | (go_at_call 135; refine (at_any _ _ (by omega) _).mono ?_; rintro e w' ⟨rfl, rfl⟩) | (go_at_call 136; refine (within_any _ _ _ _).mono ?_; rintro e w' ⟨rfl, rfl⟩) | (go_at_call 137; refine (tail_any _ _ _ (by omega) (by omega) (by omega) _).mono ?_; rintro e w' ⟨rfl, rfl⟩))
  go_ret
  exact ⟨rfl, rfl⟩

set_option maxHeartbeats 400000 in
theorem point_way13 (s : ByteArray) (i : Nat) (hb : i ≤ 1000000) (lo : (238 : Int) ≤ atI s i) (hi : atI s i ≤ 239) (t0 : tlI s ((i : Int) + 1) ((i : Int) + 3) = false) (w : World) :
    Calls Tryz.prog 125 #[.string s, .int .i64 i] w fun e w' => e = .returned (.int .i64 0) ∧ w' = w := by
  have x0 : ¬ atI s i ≤ 127 := by omega
  have y0 : wi (atI s i) 194 223 = false := by simp [wi]; omega
  have y1 : wi (atI s i) 225 236 = false := by simp [wi]; omega
  have y2 : wi (atI s i) 238 239 = true := by simp [wi]; omega
  have y3 : wi (atI s i) 241 243 = false := by simp [wi]; omega
  have z0 : (atI s i == 224) = false := by simp; omega
  have z1 : (atI s i == 237) = false := by simp; omega
  have z2 : (atI s i == 240) = false := by simp; omega
  have z3 : (atI s i == 244) = false := by simp; omega
  clear lo hi
  go_enter Tryz.func125, Tryz.ntmps125
  go_wp2_with (first | (go_at_call 135; refine (at_any _ _ (by omega) _).mono ?_; rintro e w' ⟨rfl, rfl⟩) | (go_at_call 136; refine (within_any _ _ _ _).mono ?_; rintro e w' ⟨rfl, rfl⟩) | (go_at_call 137; refine (tail_any _ _ _ (by omega) (by omega) (by omega) _).mono ?_; rintro e w' ⟨rfl, rfl⟩))
  go_ret
  exact ⟨rfl, rfl⟩

set_option maxHeartbeats 400000 in
theorem point_way14 (s : ByteArray) (i : Nat) (hb : i ≤ 1000000) (lo : (240 : Int) ≤ atI s i) (hi : atI s i ≤ 240) (t0 : wi (atI s ((i : Int) + 1)) 144 191 = true) (t1 : tlI s ((i : Int) + 2) ((i : Int) + 4) = true) (w : World) :
    Calls Tryz.prog 125 #[.string s, .int .i64 i] w fun e w' => e = .returned (.int .i64 4) ∧ w' = w := by
  have x0 : ¬ atI s i ≤ 127 := by omega
  have y0 : wi (atI s i) 194 223 = false := by simp [wi]; omega
  have y1 : wi (atI s i) 225 236 = false := by simp [wi]; omega
  have y2 : wi (atI s i) 238 239 = false := by simp [wi]; omega
  have y3 : wi (atI s i) 241 243 = false := by simp [wi]; omega
  have z0 : (atI s i == 224) = false := by simp; omega
  have z1 : (atI s i == 237) = false := by simp; omega
  have z2 : (atI s i == 240) = true := by simp; omega
  have z3 : (atI s i == 244) = false := by simp; omega
  clear lo hi
  go_enter Tryz.func125, Tryz.ntmps125
  go_wp2_with (first | (go_at_call 135; refine (at_any _ _ (by omega) _).mono ?_; rintro e w' ⟨rfl, rfl⟩) | (go_at_call 136; refine (within_any _ _ _ _).mono ?_; rintro e w' ⟨rfl, rfl⟩) | (go_at_call 137; refine (tail_any _ _ _ (by omega) (by omega) (by omega) _).mono ?_; rintro e w' ⟨rfl, rfl⟩))
  go_ret
  exact ⟨rfl, rfl⟩

set_option maxHeartbeats 400000 in
theorem point_way15 (s : ByteArray) (i : Nat) (hb : i ≤ 1000000) (lo : (240 : Int) ≤ atI s i) (hi : atI s i ≤ 240) (t0 : wi (atI s ((i : Int) + 1)) 144 191 = true) (t1 : tlI s ((i : Int) + 2) ((i : Int) + 4) = false) (w : World) :
    Calls Tryz.prog 125 #[.string s, .int .i64 i] w fun e w' => e = .returned (.int .i64 0) ∧ w' = w := by
  have x0 : ¬ atI s i ≤ 127 := by omega
  have y0 : wi (atI s i) 194 223 = false := by simp [wi]; omega
  have y1 : wi (atI s i) 225 236 = false := by simp [wi]; omega
  have y2 : wi (atI s i) 238 239 = false := by simp [wi]; omega
  have y3 : wi (atI s i) 241 243 = false := by simp [wi]; omega
  have z0 : (atI s i == 224) = false := by simp; omega
  have z1 : (atI s i == 237) = false := by simp; omega
  have z2 : (atI s i == 240) = true := by simp; omega
  have z3 : (atI s i == 244) = false := by simp; omega
  clear lo hi
  go_enter Tryz.func125, Tryz.ntmps125
  go_wp2_with (first | (go_at_call 135; refine (at_any _ _ (by omega) _).mono ?_; rintro e w' ⟨rfl, rfl⟩) | (go_at_call 136; refine (within_any _ _ _ _).mono ?_; rintro e w' ⟨rfl, rfl⟩) | (go_at_call 137; refine (tail_any _ _ _ (by omega) (by omega) (by omega) _).mono ?_; rintro e w' ⟨rfl, rfl⟩))
  go_ret
  exact ⟨rfl, rfl⟩

set_option maxHeartbeats 400000 in
theorem point_way16 (s : ByteArray) (i : Nat) (hb : i ≤ 1000000) (lo : (240 : Int) ≤ atI s i) (hi : atI s i ≤ 240) (t0 : wi (atI s ((i : Int) + 1)) 144 191 = false) (w : World) :
    Calls Tryz.prog 125 #[.string s, .int .i64 i] w fun e w' => e = .returned (.int .i64 0) ∧ w' = w := by
  have x0 : ¬ atI s i ≤ 127 := by omega
  have y0 : wi (atI s i) 194 223 = false := by simp [wi]; omega
  have y1 : wi (atI s i) 225 236 = false := by simp [wi]; omega
  have y2 : wi (atI s i) 238 239 = false := by simp [wi]; omega
  have y3 : wi (atI s i) 241 243 = false := by simp [wi]; omega
  have z0 : (atI s i == 224) = false := by simp; omega
  have z1 : (atI s i == 237) = false := by simp; omega
  have z2 : (atI s i == 240) = true := by simp; omega
  have z3 : (atI s i == 244) = false := by simp; omega
  clear lo hi
  go_enter Tryz.func125, Tryz.ntmps125
  go_wp2_with (first | (go_at_call 135; refine (at_any _ _ (by omega) _).mono ?_; rintro e w' ⟨rfl, rfl⟩) | (go_at_call 136; refine (within_any _ _ _ _).mono ?_; rintro e w' ⟨rfl, rfl⟩) | (go_at_call 137; refine (tail_any _ _ _ (by omega) (by omega) (by omega) _).mono ?_; rintro e w' ⟨rfl, rfl⟩))
  go_ret
  exact ⟨rfl, rfl⟩

set_option maxHeartbeats 400000 in
theorem point_way17 (s : ByteArray) (i : Nat) (hb : i ≤ 1000000) (lo : (241 : Int) ≤ atI s i) (hi : atI s i ≤ 243) (t0 : tlI s ((i : Int) + 1) ((i : Int) + 4) = true) (w : World) :
    Calls Tryz.prog 125 #[.string s, .int .i64 i] w fun e w' => e = .returned (.int .i64 4) ∧ w' = w := by
  have x0 : ¬ atI s i ≤ 127 := by omega
  have y0 : wi (atI s i) 194 223 = false := by simp [wi]; omega
  have y1 : wi (atI s i) 225 236 = false := by simp [wi]; omega
  have y2 : wi (atI s i) 238 239 = false := by simp [wi]; omega
  have y3 : wi (atI s i) 241 243 = true := by simp [wi]; omega
  have z0 : (atI s i == 224) = false := by simp; omega
  have z1 : (atI s i == 237) = false := by simp; omega
  have z2 : (atI s i == 240) = false := by simp; omega
  have z3 : (atI s i == 244) = false := by simp; omega
  clear lo hi
  go_enter Tryz.func125, Tryz.ntmps125
  go_wp2_with (first | (go_at_call 135; refine (at_any _ _ (by omega) _).mono ?_; rintro e w' ⟨rfl, rfl⟩) | (go_at_call 136; refine (within_any _ _ _ _).mono ?_; rintro e w' ⟨rfl, rfl⟩) | (go_at_call 137; refine (tail_any _ _ _ (by omega) (by omega) (by omega) _).mono ?_; rintro e w' ⟨rfl, rfl⟩))
  go_ret
  exact ⟨rfl, rfl⟩

set_option maxHeartbeats 400000 in
theorem point_way18 (s : ByteArray) (i : Nat) (hb : i ≤ 1000000) (lo : (241 : Int) ≤ atI s i) (hi : atI s i ≤ 243) (t0 : tlI s ((i : Int) + 1) ((i : Int) + 4) = false) (w : World) :
    Calls Tryz.prog 125 #[.string s, .int .i64 i] w fun e w' => e = .returned (.int .i64 0) ∧ w' = w := by
  have x0 : ¬ atI s i ≤ 127 := by omega
  have y0 : wi (atI s i) 194 223 = false := by simp [wi]; omega
  have y1 : wi (atI s i) 225 236 = false := by simp [wi]; omega
  have y2 : wi (atI s i) 238 239 = false := by simp [wi]; omega
  have y3 : wi (atI s i) 241 243 = true := by simp [wi]; omega
  have z0 : (atI s i == 224) = false := by simp; omega
  have z1 : (atI s i == 237) = false := by simp; omega
  have z2 : (atI s i == 240) = false := by simp; omega
  have z3 : (atI s i == 244) = false := by simp; omega
  clear lo hi
  go_enter Tryz.func125, Tryz.ntmps125
  go_wp2_with (first | (go_at_call 135; refine (at_any _ _ (by omega) _).mono ?_; rintro e w' ⟨rfl, rfl⟩) | (go_at_call 136; refine (within_any _ _ _ _).mono ?_; rintro e w' ⟨rfl, rfl⟩) | (go_at_call 137; refine (tail_any _ _ _ (by omega) (by omega) (by omega) _).mono ?_; rintro e w' ⟨rfl, rfl⟩))
  go_ret
  exact ⟨rfl, rfl⟩

set_option maxHeartbeats 400000 in
theorem point_way19 (s : ByteArray) (i : Nat) (hb : i ≤ 1000000) (lo : (244 : Int) ≤ atI s i) (hi : atI s i ≤ 244) (t0 : wi (atI s ((i : Int) + 1)) 128 143 = true) (t1 : tlI s ((i : Int) + 2) ((i : Int) + 4) = true) (w : World) :
    Calls Tryz.prog 125 #[.string s, .int .i64 i] w fun e w' => e = .returned (.int .i64 4) ∧ w' = w := by
  have x0 : ¬ atI s i ≤ 127 := by omega
  have y0 : wi (atI s i) 194 223 = false := by simp [wi]; omega
  have y1 : wi (atI s i) 225 236 = false := by simp [wi]; omega
  have y2 : wi (atI s i) 238 239 = false := by simp [wi]; omega
  have y3 : wi (atI s i) 241 243 = false := by simp [wi]; omega
  have z0 : (atI s i == 224) = false := by simp; omega
  have z1 : (atI s i == 237) = false := by simp; omega
  have z2 : (atI s i == 240) = false := by simp; omega
  have z3 : (atI s i == 244) = true := by simp; omega
  clear lo hi
  go_enter Tryz.func125, Tryz.ntmps125
  go_wp2_with (first | (go_at_call 135; refine (at_any _ _ (by omega) _).mono ?_; rintro e w' ⟨rfl, rfl⟩) | (go_at_call 136; refine (within_any _ _ _ _).mono ?_; rintro e w' ⟨rfl, rfl⟩) | (go_at_call 137; refine (tail_any _ _ _ (by omega) (by omega) (by omega) _).mono ?_; rintro e w' ⟨rfl, rfl⟩))
  go_ret
  exact ⟨rfl, rfl⟩

set_option maxHeartbeats 400000 in
theorem point_way20 (s : ByteArray) (i : Nat) (hb : i ≤ 1000000) (lo : (244 : Int) ≤ atI s i) (hi : atI s i ≤ 244) (t0 : wi (atI s ((i : Int) + 1)) 128 143 = true) (t1 : tlI s ((i : Int) + 2) ((i : Int) + 4) = false) (w : World) :
    Calls Tryz.prog 125 #[.string s, .int .i64 i] w fun e w' => e = .returned (.int .i64 0) ∧ w' = w := by
  have x0 : ¬ atI s i ≤ 127 := by omega
  have y0 : wi (atI s i) 194 223 = false := by simp [wi]; omega
  have y1 : wi (atI s i) 225 236 = false := by simp [wi]; omega
  have y2 : wi (atI s i) 238 239 = false := by simp [wi]; omega
  have y3 : wi (atI s i) 241 243 = false := by simp [wi]; omega
  have z0 : (atI s i == 224) = false := by simp; omega
  have z1 : (atI s i == 237) = false := by simp; omega
  have z2 : (atI s i == 240) = false := by simp; omega
  have z3 : (atI s i == 244) = true := by simp; omega
  clear lo hi
  go_enter Tryz.func125, Tryz.ntmps125
  go_wp2_with (first | (go_at_call 135; refine (at_any _ _ (by omega) _).mono ?_; rintro e w' ⟨rfl, rfl⟩) | (go_at_call 136; refine (within_any _ _ _ _).mono ?_; rintro e w' ⟨rfl, rfl⟩) | (go_at_call 137; refine (tail_any _ _ _ (by omega) (by omega) (by omega) _).mono ?_; rintro e w' ⟨rfl, rfl⟩))
  go_ret
  exact ⟨rfl, rfl⟩

set_option maxHeartbeats 400000 in
theorem point_way21 (s : ByteArray) (i : Nat) (hb : i ≤ 1000000) (lo : (244 : Int) ≤ atI s i) (hi : atI s i ≤ 244) (t0 : wi (atI s ((i : Int) + 1)) 128 143 = false) (w : World) :
    Calls Tryz.prog 125 #[.string s, .int .i64 i] w fun e w' => e = .returned (.int .i64 0) ∧ w' = w := by
  have x0 : ¬ atI s i ≤ 127 := by omega
  have y0 : wi (atI s i) 194 223 = false := by simp [wi]; omega
  have y1 : wi (atI s i) 225 236 = false := by simp [wi]; omega
  have y2 : wi (atI s i) 238 239 = false := by simp [wi]; omega
  have y3 : wi (atI s i) 241 243 = false := by simp [wi]; omega
  have z0 : (atI s i == 224) = false := by simp; omega
  have z1 : (atI s i == 237) = false := by simp; omega
  have z2 : (atI s i == 240) = false := by simp; omega
  have z3 : (atI s i == 244) = true := by simp; omega
  clear lo hi
  go_enter Tryz.func125, Tryz.ntmps125
  go_wp2_with (first | (go_at_call 135; refine (at_any _ _ (by omega) _).mono ?_; rintro e w' ⟨rfl, rfl⟩) | (go_at_call 136; refine (within_any _ _ _ _).mono ?_; rintro e w' ⟨rfl, rfl⟩) | (go_at_call 137; refine (tail_any _ _ _ (by omega) (by omega) (by omega) _).mono ?_; rintro e w' ⟨rfl, rfl⟩))
  go_ret
  exact ⟨rfl, rfl⟩

set_option maxHeartbeats 400000 in
theorem point_way22 (s : ByteArray) (i : Nat) (hb : i ≤ 1000000) (lo : (245 : Int) ≤ atI s i) (hi : atI s i ≤ 255)  (w : World) :
    Calls Tryz.prog 125 #[.string s, .int .i64 i] w fun e w' => e = .returned (.int .i64 0) ∧ w' = w := by
  have x0 : ¬ atI s i ≤ 127 := by omega
  have y0 : wi (atI s i) 194 223 = false := by simp [wi]; omega
  have y1 : wi (atI s i) 225 236 = false := by simp [wi]; omega
  have y2 : wi (atI s i) 238 239 = false := by simp [wi]; omega
  have y3 : wi (atI s i) 241 243 = false := by simp [wi]; omega
  have z0 : (atI s i == 224) = false := by simp; omega
  have z1 : (atI s i == 237) = false := by simp; omega
  have z2 : (atI s i == 240) = false := by simp; omega
  have z3 : (atI s i == 244) = false := by simp; omega
  clear lo hi
  go_enter Tryz.func125, Tryz.ntmps125
  go_wp2_with (first | (go_at_call 135; refine (at_any _ _ (by omega) _).mono ?_; rintro e w' ⟨rfl, rfl⟩) | (go_at_call 136; refine (within_any _ _ _ _).mono ?_; rintro e w' ⟨rfl, rfl⟩) | (go_at_call 137; refine (tail_any _ _ _ (by omega) (by omega) (by omega) _).mono ?_; rintro e w' ⟨rfl, rfl⟩))
  go_ret
  exact ⟨rfl, rfl⟩

end Go.Proofs.YtkjeneklkdekoaaGreatDoor.Rm
