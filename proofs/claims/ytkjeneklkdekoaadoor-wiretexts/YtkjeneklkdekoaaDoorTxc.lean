import Derived.Test.YtkjeneklkdekoaaDoorTxb
import Derived.Test.YtkjeneklkdekoaaDoorKone
namespace Go.Proofs.YtkjeneklkdekoaaDoor
open Go Go.RowKit
set_option linter.unusedSimpArgs false
set_option linter.unusedVariables false

theorem chk_is (s : ByteArray) (p q : Nat) (h : chk s = (p, q)) (w : World) : Calls Tryd.prog 24 #[.string s] w fun e w' => e = .returned (.tuple #[.int .i64 p, .int .i64 q]) ∧ Below w.heap.size w w' := by
  refine (chk_any s w).mono ?_
  rw [h]
  rintro e w' ⟨rfl, hb, _⟩
  exact ⟨rfl, hb⟩
theorem good_chk (s : ByteArray) (h : s.size ≤ 65535) (hg : good s) : chk s = (0, 0) := Prod.ext (good_at s h hg) hg

set_option maxRecDepth 100000 in
set_option maxHeartbeats 2000000 in
theorem texts_odd (a b more : ByteArray) (cut : Int) (w : World) (hg : GlobalAt w) (ha : a.size ≤ 30000) (hb : b.size ≤ 30000) (hm : more.size ≤ 5000) (pa qa pb qb : Nat) (hCA : chk a = (pa, qa)) (hq : qa ≠ 0) (hCB : chk b = (pb, qb)) (hCC : chk (a ++ b) = (0, 0)) :
    Calls Tryd.prog 4 #[.string a, .string b, .string more, .int .i64 cut] w fun e w' => e = .returned (.bool true) ∧ Below w.heap.size w w' := by
  have K0 : Hid (Calls Tryd.prog 6 #[] w fun e w' => e = .returned (.bool true) ∧ Below w.heap.size w w') := known_any w hg
  have i1 : ¬ (30000 : Int) < a.size := by omega
  have i2 : ¬ (30000 : Int) < b.size := by omega
  have i3 : ¬ (5000 : Int) < more.size := by omega
  clear hg
  have CA : Hid (∀ w, Calls Tryd.prog 24 #[.string a] w fun e w' => e = .returned (.tuple #[.int .i64 pa, .int .i64 qa]) ∧ Below w.heap.size w w') := fun w => chk_is _ _ _ hCA w
  have CB : Hid (∀ w, Calls Tryd.prog 24 #[.string b] w fun e w' => e = .returned (.tuple #[.int .i64 pb, .int .i64 qb]) ∧ Below w.heap.size w w') := fun w => chk_is _ _ _ hCB w
  have CC : Hid (∀ w, Calls Tryd.prog 24 #[.string (a ++ b)] w fun e w' => e = .returned (.tuple #[.int .i64 (0 : Nat), .int .i64 (0 : Nat)]) ∧ Below w.heap.size w w') := fun w => chk_is _ _ _ hCC w
  have j1 : ((qa : Int) == 0) = false := by simp; omega
  clear hCA hCB hCC hq
  go_enter Tryd.func4, Tryd.ntmps4
  go_wp2_with (go_at_call 6; refine K0.out.mono ?_; rintro e w1 ⟨rfl, hb1⟩; have B1 : Hid (Below w.heap.size w w1) := hb1; clear hb1)
  go_must (go_at_call 24)
  refine (CA.out _).mono ?_
  rintro e w2 ⟨rfl, hb⟩
  have Bw2 : Hid (Below w.heap.size w w2) := B1.out.trans (hb.mono B1.out.size)
  clear hb
  go_wp2_with fail
  go_must (go_at_call 24)
  refine (CB.out _).mono ?_
  rintro e w3 ⟨rfl, hb⟩
  have Bw3 : Hid (Below w.heap.size w w3) := Bw2.out.trans (hb.mono Bw2.out.size)
  clear hb
  go_wp2_with fail
  go_must (go_at_call 24)
  refine (CC.out _).mono ?_
  rintro e w4 ⟨rfl, hb⟩
  have Bw4 : Hid (Below w.heap.size w w4) := Bw3.out.trans (hb.mono Bw3.out.size)
  clear hb
  go_wp2_with (go_at_call 20; refine (num_any _ _).mono ?_; rintro e wn ⟨rfl, rfl⟩)
  go_ret
  exact ⟨rfl, Bw4.out⟩

set_option maxRecDepth 100000 in
set_option maxHeartbeats 2000000 in
theorem texts_low (a b more : ByteArray) (cut : Int) (w : World) (hg : GlobalAt w) (ha : a.size ≤ 30000) (hb : b.size ≤ 30000) (hm : more.size ≤ 5000) (hc : cut < 0) (hCA : chk a = (0, 0)) (hCB : chk b = (0, 0)) (hCC : chk (a ++ b) = (0, 0)) :
    Calls Tryd.prog 4 #[.string a, .string b, .string more, .int .i64 cut] w fun e w' => e = .returned (.bool true) ∧ Below w.heap.size w w' := by
  have K0 : Hid (Calls Tryd.prog 6 #[] w fun e w' => e = .returned (.bool true) ∧ Below w.heap.size w w') := known_any w hg
  have i1 : ¬ (30000 : Int) < a.size := by omega
  have i2 : ¬ (30000 : Int) < b.size := by omega
  have i3 : ¬ (5000 : Int) < more.size := by omega
  clear hg
  have CA : Hid (∀ w, Calls Tryd.prog 24 #[.string a] w fun e w' => e = .returned (.tuple #[.int .i64 (0 : Nat), .int .i64 (0 : Nat)]) ∧ Below w.heap.size w w') := fun w => chk_is _ _ _ hCA w
  have CB : Hid (∀ w, Calls Tryd.prog 24 #[.string b] w fun e w' => e = .returned (.tuple #[.int .i64 (0 : Nat), .int .i64 (0 : Nat)]) ∧ Below w.heap.size w w') := fun w => chk_is _ _ _ hCB w
  have CC : Hid (∀ w, Calls Tryd.prog 24 #[.string (a ++ b)] w fun e w' => e = .returned (.tuple #[.int .i64 (0 : Nat), .int .i64 (0 : Nat)]) ∧ Below w.heap.size w w') := fun w => chk_is _ _ _ hCC w
  have j1 : ¬ (0 : Int) ≤ cut := by omega
  clear hc
  clear hCA hCB hCC
  go_enter Tryd.func4, Tryd.ntmps4
  go_wp2_with (go_at_call 6; refine K0.out.mono ?_; rintro e w1 ⟨rfl, hb1⟩; have B1 : Hid (Below w.heap.size w w1) := hb1; clear hb1)
  go_must (go_at_call 24)
  refine (CA.out _).mono ?_
  rintro e w2 ⟨rfl, hb⟩
  have Bw2 : Hid (Below w.heap.size w w2) := B1.out.trans (hb.mono B1.out.size)
  clear hb
  go_wp2_with fail
  go_must (go_at_call 24)
  refine (CB.out _).mono ?_
  rintro e w3 ⟨rfl, hb⟩
  have Bw3 : Hid (Below w.heap.size w w3) := Bw2.out.trans (hb.mono Bw2.out.size)
  clear hb
  go_wp2_with fail
  go_must (go_at_call 24)
  refine (CC.out _).mono ?_
  rintro e w4 ⟨rfl, hb⟩
  have Bw4 : Hid (Below w.heap.size w w4) := Bw3.out.trans (hb.mono Bw3.out.size)
  clear hb
  go_wp2_with (go_at_call 20; refine (num_any _ _).mono ?_; rintro e wn ⟨rfl, rfl⟩)
  go_ret
  exact ⟨rfl, Bw4.out⟩

set_option maxRecDepth 100000 in
set_option maxHeartbeats 2000000 in
theorem texts_high (a b more : ByteArray) (cut : Int) (w : World) (hg : GlobalAt w) (ha : a.size ≤ 30000) (hb : b.size ≤ 30000) (hm : more.size ≤ 5000) (hc : (a.size : Int) ≤ cut) (hCA : chk a = (0, 0)) (hCB : chk b = (0, 0)) (hCC : chk (a ++ b) = (0, 0)) :
    Calls Tryd.prog 4 #[.string a, .string b, .string more, .int .i64 cut] w fun e w' => e = .returned (.bool true) ∧ Below w.heap.size w w' := by
  have K0 : Hid (Calls Tryd.prog 6 #[] w fun e w' => e = .returned (.bool true) ∧ Below w.heap.size w w') := known_any w hg
  have i1 : ¬ (30000 : Int) < a.size := by omega
  have i2 : ¬ (30000 : Int) < b.size := by omega
  have i3 : ¬ (5000 : Int) < more.size := by omega
  clear hg
  have CA : Hid (∀ w, Calls Tryd.prog 24 #[.string a] w fun e w' => e = .returned (.tuple #[.int .i64 (0 : Nat), .int .i64 (0 : Nat)]) ∧ Below w.heap.size w w') := fun w => chk_is _ _ _ hCA w
  have CB : Hid (∀ w, Calls Tryd.prog 24 #[.string b] w fun e w' => e = .returned (.tuple #[.int .i64 (0 : Nat), .int .i64 (0 : Nat)]) ∧ Below w.heap.size w w') := fun w => chk_is _ _ _ hCB w
  have CC : Hid (∀ w, Calls Tryd.prog 24 #[.string (a ++ b)] w fun e w' => e = .returned (.tuple #[.int .i64 (0 : Nat), .int .i64 (0 : Nat)]) ∧ Below w.heap.size w w') := fun w => chk_is _ _ _ hCC w
  have j1 : (0 : Int) ≤ cut := by omega
  have j2 : ¬ cut < (a.size : Int) := by omega
  clear hc
  clear hCA hCB hCC
  go_enter Tryd.func4, Tryd.ntmps4
  go_wp2_with (go_at_call 6; refine K0.out.mono ?_; rintro e w1 ⟨rfl, hb1⟩; have B1 : Hid (Below w.heap.size w w1) := hb1; clear hb1)
  go_must (go_at_call 24)
  refine (CA.out _).mono ?_
  rintro e w2 ⟨rfl, hb⟩
  have Bw2 : Hid (Below w.heap.size w w2) := B1.out.trans (hb.mono B1.out.size)
  clear hb
  go_wp2_with fail
  go_must (go_at_call 24)
  refine (CB.out _).mono ?_
  rintro e w3 ⟨rfl, hb⟩
  have Bw3 : Hid (Below w.heap.size w w3) := Bw2.out.trans (hb.mono Bw2.out.size)
  clear hb
  go_wp2_with fail
  go_must (go_at_call 24)
  refine (CC.out _).mono ?_
  rintro e w4 ⟨rfl, hb⟩
  have Bw4 : Hid (Below w.heap.size w w4) := Bw3.out.trans (hb.mono Bw3.out.size)
  clear hb
  go_wp2_with (go_at_call 20; refine (num_any _ _).mono ?_; rintro e wn ⟨rfl, rfl⟩)
  go_ret
  exact ⟨rfl, Bw4.out⟩

set_option maxRecDepth 100000 in
set_option maxHeartbeats 2000000 in
theorem texts_mid (a b more : ByteArray) (cut : Int) (w : World) (hg : GlobalAt w) (ha : a.size ≤ 30000) (hb : b.size ≤ 30000) (hm : more.size ≤ 5000) (c : Nat) (hcut : cut = c) (hc : c < a.size) (hl : 128 ≤ (a[c]'hc).toNat ∧ (a[c]'hc).toNat ≤ 191) (hCA : chk a = (0, 0)) (hCB : chk b = (0, 0)) (hCC : chk (a ++ b) = (0, 0)) :
    Calls Tryd.prog 4 #[.string a, .string b, .string more, .int .i64 cut] w fun e w' => e = .returned (.bool true) ∧ Below w.heap.size w w' := by
  have K0 : Hid (Calls Tryd.prog 6 #[] w fun e w' => e = .returned (.bool true) ∧ Below w.heap.size w w') := known_any w hg
  have i1 : ¬ (30000 : Int) < a.size := by omega
  have i2 : ¬ (30000 : Int) < b.size := by omega
  have i3 : ¬ (5000 : Int) < more.size := by omega
  clear hg
  have CA : Hid (∀ w, Calls Tryd.prog 24 #[.string a] w fun e w' => e = .returned (.tuple #[.int .i64 (0 : Nat), .int .i64 (0 : Nat)]) ∧ Below w.heap.size w w') := fun w => chk_is _ _ _ hCA w
  have CB : Hid (∀ w, Calls Tryd.prog 24 #[.string b] w fun e w' => e = .returned (.tuple #[.int .i64 (0 : Nat), .int .i64 (0 : Nat)]) ∧ Below w.heap.size w w') := fun w => chk_is _ _ _ hCB w
  have CC : Hid (∀ w, Calls Tryd.prog 24 #[.string (a ++ b)] w fun e w' => e = .returned (.tuple #[.int .i64 (0 : Nat), .int .i64 (0 : Nat)]) ∧ Below w.heap.size w w') := fun w => chk_is _ _ _ hCC w
  subst hcut
  have j3 : ¬ ((a[c]'hc).toNat : Int) < 128 := by omega
  have j4 : ¬ (192 : Int) ≤ ((a[c]'hc).toNat : Int) := by omega
  clear hCA hCB hCC hl
  go_enter Tryd.func4, Tryd.ntmps4
  go_wp2_with (go_at_call 6; refine K0.out.mono ?_; rintro e w1 ⟨rfl, hb1⟩; have B1 : Hid (Below w.heap.size w w1) := hb1; clear hb1)
  go_must (go_at_call 24)
  refine (CA.out _).mono ?_
  rintro e w2 ⟨rfl, hb⟩
  have Bw2 : Hid (Below w.heap.size w w2) := B1.out.trans (hb.mono B1.out.size)
  clear hb
  go_wp2_with fail
  go_must (go_at_call 24)
  refine (CB.out _).mono ?_
  rintro e w3 ⟨rfl, hb⟩
  have Bw3 : Hid (Below w.heap.size w w3) := Bw2.out.trans (hb.mono Bw2.out.size)
  clear hb
  go_wp2_with fail
  go_must (go_at_call 24)
  refine (CC.out _).mono ?_
  rintro e w4 ⟨rfl, hb⟩
  have Bw4 : Hid (Below w.heap.size w w4) := Bw3.out.trans (hb.mono Bw3.out.size)
  clear hb
  go_wp2_with (go_at_call 20; refine (num_any _ _).mono ?_; rintro e wn ⟨rfl, rfl⟩)
  go_ret
  exact ⟨rfl, Bw4.out⟩

set_option maxRecDepth 100000 in
set_option maxHeartbeats 2000000 in
theorem texts_ascii (a b more : ByteArray) (cut : Int) (w : World) (hg : GlobalAt w) (ha : a.size ≤ 30000) (hb : b.size ≤ 30000) (hm : more.size ≤ 5000) (c : Nat) (hcut : cut = c) (hc : c < a.size) (hl : (a[c]'hc).toNat < 128) (hCA : chk a = (0, 0)) (hCB : chk b = (0, 0)) (hCC : chk (a ++ b) = (0, 0)) (hCD : chk (a.extract 0 c) = (0, 0)) (hCE : chk (a.extract c a.size) = (0, 0)) :
    Calls Tryd.prog 4 #[.string a, .string b, .string more, .int .i64 cut] w fun e w' => e = .returned (.bool true) ∧ Below w.heap.size w w' := by
  have K0 : Hid (Calls Tryd.prog 6 #[] w fun e w' => e = .returned (.bool true) ∧ Below w.heap.size w w') := known_any w hg
  have i1 : ¬ (30000 : Int) < a.size := by omega
  have i2 : ¬ (30000 : Int) < b.size := by omega
  have i3 : ¬ (5000 : Int) < more.size := by omega
  clear hg
  have CA : Hid (∀ w, Calls Tryd.prog 24 #[.string a] w fun e w' => e = .returned (.tuple #[.int .i64 (0 : Nat), .int .i64 (0 : Nat)]) ∧ Below w.heap.size w w') := fun w => chk_is _ _ _ hCA w
  have CB : Hid (∀ w, Calls Tryd.prog 24 #[.string b] w fun e w' => e = .returned (.tuple #[.int .i64 (0 : Nat), .int .i64 (0 : Nat)]) ∧ Below w.heap.size w w') := fun w => chk_is _ _ _ hCB w
  have CC : Hid (∀ w, Calls Tryd.prog 24 #[.string (a ++ b)] w fun e w' => e = .returned (.tuple #[.int .i64 (0 : Nat), .int .i64 (0 : Nat)]) ∧ Below w.heap.size w w') := fun w => chk_is _ _ _ hCC w
  have CD : Hid (∀ w, Calls Tryd.prog 24 #[.string (a.extract 0 c)] w fun e w' => e = .returned (.tuple #[.int .i64 (0 : Nat), .int .i64 (0 : Nat)]) ∧ Below w.heap.size w w') := fun w => chk_is _ _ _ hCD w
  have CE : Hid (∀ w, Calls Tryd.prog 24 #[.string (a.extract c a.size)] w fun e w' => e = .returned (.tuple #[.int .i64 (0 : Nat), .int .i64 (0 : Nat)]) ∧ Below w.heap.size w w') := fun w => chk_is _ _ _ hCE w
  subst hcut
  have j3 : ((a[c]'hc).toNat : Int) < 128 := by omega
  clear hCA hCB hCC hCD hCE hl
  go_enter Tryd.func4, Tryd.ntmps4
  go_wp2_with (go_at_call 6; refine K0.out.mono ?_; rintro e w1 ⟨rfl, hb1⟩; have B1 : Hid (Below w.heap.size w w1) := hb1; clear hb1)
  go_must (go_at_call 24)
  refine (CA.out _).mono ?_
  rintro e w2 ⟨rfl, hb⟩
  have Bw2 : Hid (Below w.heap.size w w2) := B1.out.trans (hb.mono B1.out.size)
  clear hb
  go_wp2_with fail
  go_must (go_at_call 24)
  refine (CB.out _).mono ?_
  rintro e w3 ⟨rfl, hb⟩
  have Bw3 : Hid (Below w.heap.size w w3) := Bw2.out.trans (hb.mono Bw2.out.size)
  clear hb
  go_wp2_with fail
  go_must (go_at_call 24)
  refine (CC.out _).mono ?_
  rintro e w4 ⟨rfl, hb⟩
  have Bw4 : Hid (Below w.heap.size w w4) := Bw3.out.trans (hb.mono Bw3.out.size)
  clear hb
  go_wp2_with (go_at_call 20; refine (num_any _ _).mono ?_; rintro e wn ⟨rfl, rfl⟩)
  go_must (go_at_call 24)
  refine (CD.out _).mono ?_
  rintro e w5 ⟨rfl, hb⟩
  have Bw5 : Hid (Below w.heap.size w w5) := Bw4.out.trans (hb.mono Bw4.out.size)
  clear hb
  go_wp2_with fail
  go_must (go_at_call 24)
  refine (CE.out _).mono ?_
  rintro e w6 ⟨rfl, hb⟩
  have Bw6 : Hid (Below w.heap.size w w6) := Bw5.out.trans (hb.mono Bw5.out.size)
  clear hb
  go_wp2_with (go_at_call 20; refine (num_any _ _).mono ?_; rintro e wn ⟨rfl, rfl⟩)
  go_ret
  exact ⟨rfl, Bw6.out⟩

set_option maxRecDepth 100000 in
set_option maxHeartbeats 2000000 in
theorem texts_lead (a b more : ByteArray) (cut : Int) (w : World) (hg : GlobalAt w) (ha : a.size ≤ 30000) (hb : b.size ≤ 30000) (hm : more.size ≤ 5000) (c : Nat) (hcut : cut = c) (hc : c < a.size) (hl : 192 ≤ (a[c]'hc).toNat) (hCA : chk a = (0, 0)) (hCB : chk b = (0, 0)) (hCC : chk (a ++ b) = (0, 0)) (hCD : chk (a.extract 0 c) = (0, 0)) (hCE : chk (a.extract c a.size) = (0, 0)) :
    Calls Tryd.prog 4 #[.string a, .string b, .string more, .int .i64 cut] w fun e w' => e = .returned (.bool true) ∧ Below w.heap.size w w' := by
  have K0 : Hid (Calls Tryd.prog 6 #[] w fun e w' => e = .returned (.bool true) ∧ Below w.heap.size w w') := known_any w hg
  have i1 : ¬ (30000 : Int) < a.size := by omega
  have i2 : ¬ (30000 : Int) < b.size := by omega
  have i3 : ¬ (5000 : Int) < more.size := by omega
  clear hg
  have CA : Hid (∀ w, Calls Tryd.prog 24 #[.string a] w fun e w' => e = .returned (.tuple #[.int .i64 (0 : Nat), .int .i64 (0 : Nat)]) ∧ Below w.heap.size w w') := fun w => chk_is _ _ _ hCA w
  have CB : Hid (∀ w, Calls Tryd.prog 24 #[.string b] w fun e w' => e = .returned (.tuple #[.int .i64 (0 : Nat), .int .i64 (0 : Nat)]) ∧ Below w.heap.size w w') := fun w => chk_is _ _ _ hCB w
  have CC : Hid (∀ w, Calls Tryd.prog 24 #[.string (a ++ b)] w fun e w' => e = .returned (.tuple #[.int .i64 (0 : Nat), .int .i64 (0 : Nat)]) ∧ Below w.heap.size w w') := fun w => chk_is _ _ _ hCC w
  have CD : Hid (∀ w, Calls Tryd.prog 24 #[.string (a.extract 0 c)] w fun e w' => e = .returned (.tuple #[.int .i64 (0 : Nat), .int .i64 (0 : Nat)]) ∧ Below w.heap.size w w') := fun w => chk_is _ _ _ hCD w
  have CE : Hid (∀ w, Calls Tryd.prog 24 #[.string (a.extract c a.size)] w fun e w' => e = .returned (.tuple #[.int .i64 (0 : Nat), .int .i64 (0 : Nat)]) ∧ Below w.heap.size w w') := fun w => chk_is _ _ _ hCE w
  subst hcut
  have j3 : ¬ ((a[c]'hc).toNat : Int) < 128 := by omega
  have j4 : (192 : Int) ≤ ((a[c]'hc).toNat : Int) := by omega
  clear hCA hCB hCC hCD hCE hl
  go_enter Tryd.func4, Tryd.ntmps4
  go_wp2_with (go_at_call 6; refine K0.out.mono ?_; rintro e w1 ⟨rfl, hb1⟩; have B1 : Hid (Below w.heap.size w w1) := hb1; clear hb1)
  go_must (go_at_call 24)
  refine (CA.out _).mono ?_
  rintro e w2 ⟨rfl, hb⟩
  have Bw2 : Hid (Below w.heap.size w w2) := B1.out.trans (hb.mono B1.out.size)
  clear hb
  go_wp2_with fail
  go_must (go_at_call 24)
  refine (CB.out _).mono ?_
  rintro e w3 ⟨rfl, hb⟩
  have Bw3 : Hid (Below w.heap.size w w3) := Bw2.out.trans (hb.mono Bw2.out.size)
  clear hb
  go_wp2_with fail
  go_must (go_at_call 24)
  refine (CC.out _).mono ?_
  rintro e w4 ⟨rfl, hb⟩
  have Bw4 : Hid (Below w.heap.size w w4) := Bw3.out.trans (hb.mono Bw3.out.size)
  clear hb
  go_wp2_with (go_at_call 20; refine (num_any _ _).mono ?_; rintro e wn ⟨rfl, rfl⟩)
  go_must (go_at_call 24)
  refine (CD.out _).mono ?_
  rintro e w5 ⟨rfl, hb⟩
  have Bw5 : Hid (Below w.heap.size w w5) := Bw4.out.trans (hb.mono Bw4.out.size)
  clear hb
  go_wp2_with fail
  go_must (go_at_call 24)
  refine (CE.out _).mono ?_
  rintro e w6 ⟨rfl, hb⟩
  have Bw6 : Hid (Below w.heap.size w w6) := Bw5.out.trans (hb.mono Bw5.out.size)
  clear hb
  go_wp2_with (go_at_call 20; refine (num_any _ _).mono ?_; rintro e wn ⟨rfl, rfl⟩)
  go_ret
  exact ⟨rfl, Bw6.out⟩
end Go.Proofs.YtkjeneklkdekoaaDoor
