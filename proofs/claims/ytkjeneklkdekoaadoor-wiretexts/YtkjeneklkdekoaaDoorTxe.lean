import Derived.Test.YtkjeneklkdekoaaDoorTxd
import Derived.Deep.QuietTactic
import Derived.BigQuiet
namespace Go.Proofs.YtkjeneklkdekoaaDoor
open Go Go.RowKit
set_option linter.unusedSimpArgs false
set_option linter.unusedVariables false

set_option maxRecDepth 100000 in
set_option maxHeartbeats 2000000 in
theorem texts_equal13 (a b more : ByteArray) (cut : Int) (w : World) (hg : GlobalAt w) (ha : a.size ≤ 30000) (hb : b.size ≤ 30000) (hm : more.size ≤ 5000) (pa qa pb qb p : Nat) (hCA : chk a = (pa, qa)) (hqa : qa ≠ 0) (hCB : chk b = (pb, qb)) (hCC : chk (a ++ b) = (p, 13)) (hp : p < (a ++ b).size) (hby : ((a ++ b)[p]'hp).toNat ≠ 0) (hCD : chk ((a ++ b).extract 0 p) = (0, 0))
    (hf : p + 4 = (a ++ b).size) (hCE : chk ((a ++ b).extract 0 (a ++ b).size ++ more) = (p, 13)) :
    Calls Tryd.prog 4 #[.string a, .string b, .string more, .int .i64 cut] w fun e w' => e = .returned (.bool true) ∧ Below w.heap.size w w' := by
  have K0 : Hid (Calls Tryd.prog 6 #[] w fun e w' => e = .returned (.bool true) ∧ Below w.heap.size w w') := known_any w hg
  have i1 : ¬ (30000 : Int) < a.size := by omega
  have i2 : ¬ (30000 : Int) < b.size := by omega
  have i3 : ¬ (5000 : Int) < more.size := by omega
  clear hg
  have CA : Hid (∀ w, Calls Tryd.prog 24 #[.string a] w fun e w' => e = .returned (.tuple #[.int .i64 pa, .int .i64 qa]) ∧ Below w.heap.size w w') := fun w => chk_is _ _ _ hCA w
  have CB : Hid (∀ w, Calls Tryd.prog 24 #[.string b] w fun e w' => e = .returned (.tuple #[.int .i64 pb, .int .i64 qb]) ∧ Below w.heap.size w w') := fun w => chk_is _ _ _ hCB w
  have CC : Hid (∀ w, Calls Tryd.prog 24 #[.string (a ++ b)] w fun e w' => e = .returned (.tuple #[.int .i64 p, .int .i64 (13 : Nat)]) ∧ Below w.heap.size w w') := fun w => chk_is _ _ _ hCC w
  have CD : Hid (∀ w, Calls Tryd.prog 24 #[.string ((a ++ b).extract 0 p)] w fun e w' => e = .returned (.tuple #[.int .i64 (0 : Nat), .int .i64 (0 : Nat)]) ∧ Below w.heap.size w w') := fun w => chk_is _ _ _ hCD w
  have hsz := app_size a b
  have CE : Hid (∀ w, Calls Tryd.prog 24 #[.string ((a ++ b).extract 0 ((a.size : Int) + (b.size : Int)).toNat ++ more)] w fun e w' => e = .returned (.tuple #[.int .i64 p, .int .i64 (13 : Nat)]) ∧ Below w.heap.size w w') := by
    have e : ((a.size : Int) + (b.size : Int)).toNat = (a ++ b).size := by omega
    rw [e]
    exact fun w => chk_is _ _ _ hCE w
  have k1 : ((a.size : Int) + (b.size : Int)) ≤ (p : Int) + 4 := by omega
  have k2 : ¬ ((a.size : Int) + (b.size : Int)) < (p : Int) + 4 := by omega
  have j1 : ((qa : Int) == 0) = false := by simp; omega
  have hby' : ((((a ++ b)[p]'hp).toNat : Int) == 0) = false := by simp; omega
  clear hCA hCB hCC hCD hCE hby hqa
  go_enter Tryd.func4, Tryd.ntmps4
  go_wp2_with (go_at_call 6; refine K0.out.mono ?_; rintro e w1 ⟨rfl, hb1⟩; have B1 : Hid (Below w.heap.size w w1) := hb1; clear hb1)
  go_must (go_at_call 24)
  refine (CA.out _).mono ?_
  rintro e w2 ⟨rfl, hb⟩
  have Bw2 : Hid (Below w.heap.size w w2) := B1.out.trans (hb.mono B1.out.size)
  clear hb
  go_wp2_with fail
  go_must (go_at_call 24)
  refine (CB.out _).mono ?_
  rintro e w3 ⟨rfl, hb⟩
  have Bw3 : Hid (Below w.heap.size w w3) := Bw2.out.trans (hb.mono Bw2.out.size)
  clear hb
  go_wp2_with fail
  go_must (go_at_call 24)
  refine (CC.out _).mono ?_
  rintro e w4 ⟨rfl, hb⟩
  have Bw4 : Hid (Below w.heap.size w w4) := Bw3.out.trans (hb.mono Bw3.out.size)
  clear hb
  go_wp2_with (go_at_call 20; refine (num_any _ _).mono ?_; rintro e wn ⟨rfl, rfl⟩)
  have d1 : decide ((p : Int) < 0) = false := by simp
  have d2 : decide ((a.size : Int) + (b.size : Int) ≤ (p : Int)) = false := by simp; omega
  have hix : ∀ w, (Instr.index 9 (.string (a ++ b)) (.int .i64 (p : Int))).run Tryd.prog w = .ok (.int .u8 (((a ++ b)[p]'hp).toNat : Int)) w := fun w => idx (a ++ b) p hp w
  go_quiet ((go_at_call 20; exact Calls.quiet_of_same (num_any _ _)))
  clear hix d1 d2 hby'
  go_wp2_with fail
  go_must (go_at_call 24)
  refine (CD.out _).mono ?_
  rintro e w5 ⟨rfl, hb⟩
  have Bw5 : Hid (Below w.heap.size w w5) := drawn_below Bw4.out hb Bw4.out.size
  clear hb
  go_wp2_with fail
  go_must (go_at_call 24)
  refine (CE.out _).mono ?_
  rintro e w6 ⟨rfl, hb⟩
  have Bw6 : Hid (Below w.heap.size w w6) := Bw5.out.trans (hb.mono Bw5.out.size)
  clear hb
  go_wp2_with (go_at_call 20; refine (num_any _ _).mono ?_; rintro e wn ⟨rfl, rfl⟩)
  go_ret
  exact ⟨rfl, Bw6.out⟩

set_option maxRecDepth 100000 in
set_option maxHeartbeats 2000000 in
theorem texts_far13 (a b more : ByteArray) (cut : Int) (w : World) (hg : GlobalAt w) (ha : a.size ≤ 30000) (hb : b.size ≤ 30000) (hm : more.size ≤ 5000) (pa qa pb qb p : Nat) (hCA : chk a = (pa, qa)) (hqa : qa ≠ 0) (hCB : chk b = (pb, qb)) (hCC : chk (a ++ b) = (p, 13)) (hp : p < (a ++ b).size) (hby : ((a ++ b)[p]'hp).toNat ≠ 0) (hCD : chk ((a ++ b).extract 0 p) = (0, 0))
    (hf : (a ++ b).size < p + 4) (pe qe : Nat) (hCE : chk ((a ++ b).extract 0 (a ++ b).size ++ more) = (pe, qe)) :
    Calls Tryd.prog 4 #[.string a, .string b, .string more, .int .i64 cut] w fun e w' => e = .returned (.bool true) ∧ Below w.heap.size w w' := by
  have K0 : Hid (Calls Tryd.prog 6 #[] w fun e w' => e = .returned (.bool true) ∧ Below w.heap.size w w') := known_any w hg
  have i1 : ¬ (30000 : Int) < a.size := by omega
  have i2 : ¬ (30000 : Int) < b.size := by omega
  have i3 : ¬ (5000 : Int) < more.size := by omega
  clear hg
  have CA : Hid (∀ w, Calls Tryd.prog 24 #[.string a] w fun e w' => e = .returned (.tuple #[.int .i64 pa, .int .i64 qa]) ∧ Below w.heap.size w w') := fun w => chk_is _ _ _ hCA w
  have CB : Hid (∀ w, Calls Tryd.prog 24 #[.string b] w fun e w' => e = .returned (.tuple #[.int .i64 pb, .int .i64 qb]) ∧ Below w.heap.size w w') := fun w => chk_is _ _ _ hCB w
  have CC : Hid (∀ w, Calls Tryd.prog 24 #[.string (a ++ b)] w fun e w' => e = .returned (.tuple #[.int .i64 p, .int .i64 (13 : Nat)]) ∧ Below w.heap.size w w') := fun w => chk_is _ _ _ hCC w
  have CD : Hid (∀ w, Calls Tryd.prog 24 #[.string ((a ++ b).extract 0 p)] w fun e w' => e = .returned (.tuple #[.int .i64 (0 : Nat), .int .i64 (0 : Nat)]) ∧ Below w.heap.size w w') := fun w => chk_is _ _ _ hCD w
  have hsz := app_size a b
  have CE : Hid (∀ w, Calls Tryd.prog 24 #[.string ((a ++ b).extract 0 ((a.size : Int) + (b.size : Int)).toNat ++ more)] w fun e w' => e = .returned (.tuple #[.int .i64 pe, .int .i64 qe]) ∧ Below w.heap.size w w') := by
    have e : ((a.size : Int) + (b.size : Int)).toNat = (a ++ b).size := by omega
    rw [e]
    exact fun w => chk_is _ _ _ hCE w
  have k1 : ((a.size : Int) + (b.size : Int)) ≤ (p : Int) + 4 := by omega
  have k2 : ((a.size : Int) + (b.size : Int)) < (p : Int) + 4 := by omega
  have j1 : ((qa : Int) == 0) = false := by simp; omega
  have hby' : ((((a ++ b)[p]'hp).toNat : Int) == 0) = false := by simp; omega
  clear hCA hCB hCC hCD hCE hby hqa
  go_enter Tryd.func4, Tryd.ntmps4
  go_wp2_with (go_at_call 6; refine K0.out.mono ?_; rintro e w1 ⟨rfl, hb1⟩; have B1 : Hid (Below w.heap.size w w1) := hb1; clear hb1)
  go_must (go_at_call 24)
  refine (CA.out _).mono ?_
  rintro e w2 ⟨rfl, hb⟩
  have Bw2 : Hid (Below w.heap.size w w2) := B1.out.trans (hb.mono B1.out.size)
  clear hb
  go_wp2_with fail
  go_must (go_at_call 24)
  refine (CB.out _).mono ?_
  rintro e w3 ⟨rfl, hb⟩
  have Bw3 : Hid (Below w.heap.size w w3) := Bw2.out.trans (hb.mono Bw2.out.size)
  clear hb
  go_wp2_with fail
  go_must (go_at_call 24)
  refine (CC.out _).mono ?_
  rintro e w4 ⟨rfl, hb⟩
  have Bw4 : Hid (Below w.heap.size w w4) := Bw3.out.trans (hb.mono Bw3.out.size)
  clear hb
  go_wp2_with (go_at_call 20; refine (num_any _ _).mono ?_; rintro e wn ⟨rfl, rfl⟩)
  have d1 : decide ((p : Int) < 0) = false := by simp
  have d2 : decide ((a.size : Int) + (b.size : Int) ≤ (p : Int)) = false := by simp; omega
  have hix : ∀ w, (Instr.index 9 (.string (a ++ b)) (.int .i64 (p : Int))).run Tryd.prog w = .ok (.int .u8 (((a ++ b)[p]'hp).toNat : Int)) w := fun w => idx (a ++ b) p hp w
  go_quiet ((go_at_call 20; exact Calls.quiet_of_same (num_any _ _)))
  clear hix d1 d2 hby'
  go_wp2_with fail
  go_must (go_at_call 24)
  refine (CD.out _).mono ?_
  rintro e w5 ⟨rfl, hb⟩
  have Bw5 : Hid (Below w.heap.size w w5) := drawn_below Bw4.out hb Bw4.out.size
  clear hb
  go_wp2_with fail
  go_must (go_at_call 24)
  refine (CE.out _).mono ?_
  rintro e w6 ⟨rfl, hb⟩
  have Bw6 : Hid (Below w.heap.size w w6) := Bw5.out.trans (hb.mono Bw5.out.size)
  clear hb
  go_wp2_with (go_at_call 20; refine (num_any _ _).mono ?_; rintro e wn ⟨rfl, rfl⟩)
  go_ret
  exact ⟨rfl, Bw6.out⟩

set_option maxRecDepth 100000 in
set_option maxHeartbeats 2000000 in
theorem texts_near14 (a b more : ByteArray) (cut : Int) (w : World) (hg : GlobalAt w) (ha : a.size ≤ 30000) (hb : b.size ≤ 30000) (hm : more.size ≤ 5000) (pa qa pb qb p : Nat) (hCA : chk a = (pa, qa)) (hqa : qa ≠ 0) (hCB : chk b = (pb, qb)) (hCC : chk (a ++ b) = (p, 14)) (hp : p < (a ++ b).size) (hby : ((a ++ b)[p]'hp).toNat = 0) (hCD : chk ((a ++ b).extract 0 p) = (0, 0))
    (hf : p + 4 < (a ++ b).size) (hCE : chk ((a ++ b).extract 0 (p + 4) ++ more) = (p, 14)) :
    Calls Tryd.prog 4 #[.string a, .string b, .string more, .int .i64 cut] w fun e w' => e = .returned (.bool true) ∧ Below w.heap.size w w' := by
  have K0 : Hid (Calls Tryd.prog 6 #[] w fun e w' => e = .returned (.bool true) ∧ Below w.heap.size w w') := known_any w hg
  have i1 : ¬ (30000 : Int) < a.size := by omega
  have i2 : ¬ (30000 : Int) < b.size := by omega
  have i3 : ¬ (5000 : Int) < more.size := by omega
  clear hg
  have CA : Hid (∀ w, Calls Tryd.prog 24 #[.string a] w fun e w' => e = .returned (.tuple #[.int .i64 pa, .int .i64 qa]) ∧ Below w.heap.size w w') := fun w => chk_is _ _ _ hCA w
  have CB : Hid (∀ w, Calls Tryd.prog 24 #[.string b] w fun e w' => e = .returned (.tuple #[.int .i64 pb, .int .i64 qb]) ∧ Below w.heap.size w w') := fun w => chk_is _ _ _ hCB w
  have CC : Hid (∀ w, Calls Tryd.prog 24 #[.string (a ++ b)] w fun e w' => e = .returned (.tuple #[.int .i64 p, .int .i64 (14 : Nat)]) ∧ Below w.heap.size w w') := fun w => chk_is _ _ _ hCC w
  have CD : Hid (∀ w, Calls Tryd.prog 24 #[.string ((a ++ b).extract 0 p)] w fun e w' => e = .returned (.tuple #[.int .i64 (0 : Nat), .int .i64 (0 : Nat)]) ∧ Below w.heap.size w w') := fun w => chk_is _ _ _ hCD w
  have hsz := app_size a b
  have CE : Hid (∀ w, Calls Tryd.prog 24 #[.string ((a ++ b).extract 0 ((p : Int) + 4).toNat ++ more)] w fun e w' => e = .returned (.tuple #[.int .i64 p, .int .i64 (14 : Nat)]) ∧ Below w.heap.size w w') := by
    have e : ((p : Int) + 4).toNat = p + 4 := by omega
    rw [e]
    exact fun w => chk_is _ _ _ hCE w
  have k1 : ¬ ((a.size : Int) + (b.size : Int)) ≤ (p : Int) + 4 := by omega
  have k2 : ¬ ((a.size : Int) + (b.size : Int)) < (p : Int) + 4 := by omega
  have j1 : ((qa : Int) == 0) = false := by simp; omega
  have hby' : ((((a ++ b)[p]'hp).toNat : Int) == 0) = true := by simp; omega
  clear hCA hCB hCC hCD hCE hby hqa
  go_enter Tryd.func4, Tryd.ntmps4
  go_wp2_with (go_at_call 6; refine K0.out.mono ?_; rintro e w1 ⟨rfl, hb1⟩; have B1 : Hid (Below w.heap.size w w1) := hb1; clear hb1)
  go_must (go_at_call 24)
  refine (CA.out _).mono ?_
  rintro e w2 ⟨rfl, hb⟩
  have Bw2 : Hid (Below w.heap.size w w2) := B1.out.trans (hb.mono B1.out.size)
  clear hb
  go_wp2_with fail
  go_must (go_at_call 24)
  refine (CB.out _).mono ?_
  rintro e w3 ⟨rfl, hb⟩
  have Bw3 : Hid (Below w.heap.size w w3) := Bw2.out.trans (hb.mono Bw2.out.size)
  clear hb
  go_wp2_with fail
  go_must (go_at_call 24)
  refine (CC.out _).mono ?_
  rintro e w4 ⟨rfl, hb⟩
  have Bw4 : Hid (Below w.heap.size w w4) := Bw3.out.trans (hb.mono Bw3.out.size)
  clear hb
  go_wp2_with (go_at_call 20; refine (num_any _ _).mono ?_; rintro e wn ⟨rfl, rfl⟩)
  have d1 : decide ((p : Int) < 0) = false := by simp
  have d2 : decide ((a.size : Int) + (b.size : Int) ≤ (p : Int)) = false := by simp; omega
  have hix : ∀ w, (Instr.index 9 (.string (a ++ b)) (.int .i64 (p : Int))).run Tryd.prog w = .ok (.int .u8 (((a ++ b)[p]'hp).toNat : Int)) w := fun w => idx (a ++ b) p hp w
  go_quiet ((go_at_call 20; exact Calls.quiet_of_same (num_any _ _)))
  clear hix d1 d2 hby'
  go_wp2_with fail
  go_must (go_at_call 24)
  refine (CD.out _).mono ?_
  rintro e w5 ⟨rfl, hb⟩
  have Bw5 : Hid (Below w.heap.size w w5) := drawn_below Bw4.out hb Bw4.out.size
  clear hb
  go_wp2_with fail
  go_must (go_at_call 24)
  refine (CE.out _).mono ?_
  rintro e w6 ⟨rfl, hb⟩
  have Bw6 : Hid (Below w.heap.size w w6) := Bw5.out.trans (hb.mono Bw5.out.size)
  clear hb
  go_wp2_with (go_at_call 20; refine (num_any _ _).mono ?_; rintro e wn ⟨rfl, rfl⟩)
  go_ret
  exact ⟨rfl, Bw6.out⟩

set_option maxRecDepth 100000 in
set_option maxHeartbeats 2000000 in
theorem texts_equal14 (a b more : ByteArray) (cut : Int) (w : World) (hg : GlobalAt w) (ha : a.size ≤ 30000) (hb : b.size ≤ 30000) (hm : more.size ≤ 5000) (pa qa pb qb p : Nat) (hCA : chk a = (pa, qa)) (hqa : qa ≠ 0) (hCB : chk b = (pb, qb)) (hCC : chk (a ++ b) = (p, 14)) (hp : p < (a ++ b).size) (hby : ((a ++ b)[p]'hp).toNat = 0) (hCD : chk ((a ++ b).extract 0 p) = (0, 0))
    (hf : p + 4 = (a ++ b).size) (hCE : chk ((a ++ b).extract 0 (a ++ b).size ++ more) = (p, 14)) :
    Calls Tryd.prog 4 #[.string a, .string b, .string more, .int .i64 cut] w fun e w' => e = .returned (.bool true) ∧ Below w.heap.size w w' := by
  have K0 : Hid (Calls Tryd.prog 6 #[] w fun e w' => e = .returned (.bool true) ∧ Below w.heap.size w w') := known_any w hg
  have i1 : ¬ (30000 : Int) < a.size := by omega
  have i2 : ¬ (30000 : Int) < b.size := by omega
  have i3 : ¬ (5000 : Int) < more.size := by omega
  clear hg
  have CA : Hid (∀ w, Calls Tryd.prog 24 #[.string a] w fun e w' => e = .returned (.tuple #[.int .i64 pa, .int .i64 qa]) ∧ Below w.heap.size w w') := fun w => chk_is _ _ _ hCA w
  have CB : Hid (∀ w, Calls Tryd.prog 24 #[.string b] w fun e w' => e = .returned (.tuple #[.int .i64 pb, .int .i64 qb]) ∧ Below w.heap.size w w') := fun w => chk_is _ _ _ hCB w
  have CC : Hid (∀ w, Calls Tryd.prog 24 #[.string (a ++ b)] w fun e w' => e = .returned (.tuple #[.int .i64 p, .int .i64 (14 : Nat)]) ∧ Below w.heap.size w w') := fun w => chk_is _ _ _ hCC w
  have CD : Hid (∀ w, Calls Tryd.prog 24 #[.string ((a ++ b).extract 0 p)] w fun e w' => e = .returned (.tuple #[.int .i64 (0 : Nat), .int .i64 (0 : Nat)]) ∧ Below w.heap.size w w') := fun w => chk_is _ _ _ hCD w
  have hsz := app_size a b
  have CE : Hid (∀ w, Calls Tryd.prog 24 #[.string ((a ++ b).extract 0 ((a.size : Int) + (b.size : Int)).toNat ++ more)] w fun e w' => e = .returned (.tuple #[.int .i64 p, .int .i64 (14 : Nat)]) ∧ Below w.heap.size w w') := by
    have e : ((a.size : Int) + (b.size : Int)).toNat = (a ++ b).size := by omega
    rw [e]
    exact fun w => chk_is _ _ _ hCE w
  have k1 : ((a.size : Int) + (b.size : Int)) ≤ (p : Int) + 4 := by omega
  have k2 : ¬ ((a.size : Int) + (b.size : Int)) < (p : Int) + 4 := by omega
  have j1 : ((qa : Int) == 0) = false := by simp; omega
  have hby' : ((((a ++ b)[p]'hp).toNat : Int) == 0) = true := by simp; omega
  clear hCA hCB hCC hCD hCE hby hqa
  go_enter Tryd.func4, Tryd.ntmps4
  go_wp2_with (go_at_call 6; refine K0.out.mono ?_; rintro e w1 ⟨rfl, hb1⟩; have B1 : Hid (Below w.heap.size w w1) := hb1; clear hb1)
  go_must (go_at_call 24)
  refine (CA.out _).mono ?_
  rintro e w2 ⟨rfl, hb⟩
  have Bw2 : Hid (Below w.heap.size w w2) := B1.out.trans (hb.mono B1.out.size)
  clear hb
  go_wp2_with fail
  go_must (go_at_call 24)
  refine (CB.out _).mono ?_
  rintro e w3 ⟨rfl, hb⟩
  have Bw3 : Hid (Below w.heap.size w w3) := Bw2.out.trans (hb.mono Bw2.out.size)
  clear hb
  go_wp2_with fail
  go_must (go_at_call 24)
  refine (CC.out _).mono ?_
  rintro e w4 ⟨rfl, hb⟩
  have Bw4 : Hid (Below w.heap.size w w4) := Bw3.out.trans (hb.mono Bw3.out.size)
  clear hb
  go_wp2_with (go_at_call 20; refine (num_any _ _).mono ?_; rintro e wn ⟨rfl, rfl⟩)
  have d1 : decide ((p : Int) < 0) = false := by simp
  have d2 : decide ((a.size : Int) + (b.size : Int) ≤ (p : Int)) = false := by simp; omega
  have hix : ∀ w, (Instr.index 9 (.string (a ++ b)) (.int .i64 (p : Int))).run Tryd.prog w = .ok (.int .u8 (((a ++ b)[p]'hp).toNat : Int)) w := fun w => idx (a ++ b) p hp w
  go_quiet ((go_at_call 20; exact Calls.quiet_of_same (num_any _ _)))
  clear hix d1 d2 hby'
  go_wp2_with fail
  go_must (go_at_call 24)
  refine (CD.out _).mono ?_
  rintro e w5 ⟨rfl, hb⟩
  have Bw5 : Hid (Below w.heap.size w w5) := drawn_below Bw4.out hb Bw4.out.size
  clear hb
  go_wp2_with fail
  go_must (go_at_call 24)
  refine (CE.out _).mono ?_
  rintro e w6 ⟨rfl, hb⟩
  have Bw6 : Hid (Below w.heap.size w w6) := Bw5.out.trans (hb.mono Bw5.out.size)
  clear hb
  go_wp2_with (go_at_call 20; refine (num_any _ _).mono ?_; rintro e wn ⟨rfl, rfl⟩)
  go_ret
  exact ⟨rfl, Bw6.out⟩
end Go.Proofs.YtkjeneklkdekoaaDoor
