import Derived.Test.YtdanjbbemmngnaaGreatDoorRc
import Derived.Test.YtdanjbbemmngnaaGreatDoorWm
namespace Go.Proofs.YtdanjbbemmngnaaGreatDoor
open Go Go.RowKit Go.Sort
set_option linter.unusedSimpArgs false
set_option linter.unusedVariables false

/-- What is told of a message. -/
def cmsg (t : ByteArray) (q : Int) : Int := if tcode t ≠ 0 then 23 else if isQ q then 0 else 25

theorem below1 (w : World) (o : Obj) : Below w.heap.size w (w.alloc o) := (Below.refl _ _).alloc (Nat.le_refl _) _

set_option maxHeartbeats 1000000 in
theorem rmsg_any (t : ByteArray) (a : Option Addr) (n c : Nat) (q : Int) (r : Bool) (w : World) : Calls Tryz.prog 31 #[.agg #[.string t, .slice a n c, .int .i64 q, .bool r]] w fun e w' => e = .returned (.int .i64 (cmsg t q)) ∧ Below w.heap.size w w' := by
  by_cases ht : tcode t = 0
  · have ht' : (tcode t != 0) = false := by simp [ht]
    have HQ : Hid (isQ q = (decide (0 ≤ q) && decide (q ≤ 2))) := rfl
    cases hq : isQ q with
    | true =>
      rw [show cmsg t q = 0 by simp [cmsg, ht, hq]]
      clear ht
      go_enter Tryz.func31, Tryz.ntmps31
      go_wp2_with (first | (go_at_call 105; refine (rcheck_any t _).mono ?_; rintro e w' ⟨rfl, hee⟩; obtain rfl := hee.symm; clear hee) | (go_at_call 95; refine (within_any q 2 _).mono ?_; rintro e w' ⟨rfl, hee⟩; obtain rfl := hee.symm; clear hee; rw [← HQ.out, hq]))
      go_ret
      exact ⟨rfl, below1 _ _⟩
    | false =>
      rw [show cmsg t q = 25 by simp [cmsg, ht, hq]]
      clear ht
      go_enter Tryz.func31, Tryz.ntmps31
      go_wp2_with (first | (go_at_call 105; refine (rcheck_any t _).mono ?_; rintro e w' ⟨rfl, hee⟩; obtain rfl := hee.symm; clear hee) | (go_at_call 95; refine (within_any q 2 _).mono ?_; rintro e w' ⟨rfl, hee⟩; obtain rfl := hee.symm; clear hee; rw [← HQ.out, hq]))
      go_ret
      exact ⟨rfl, below1 _ _⟩
  · have ht' : (tcode t != 0) = true := by simp [ht]
    rw [show cmsg t q = 23 by simp [cmsg, ht]]
    clear ht
    go_enter Tryz.func31, Tryz.ntmps31
    go_wp2_with (go_at_call 105; refine (rcheck_any t _).mono ?_; rintro e w' ⟨rfl, hee⟩; obtain rfl := hee.symm; clear hee)
    go_ret
    exact ⟨rfl, below1 _ _⟩

set_option maxHeartbeats 1000000 in
theorem pmsg_any (t : ByteArray) (a : Option Addr) (n c : Nat) (q : Int) (r : Bool) (w : World) : Calls Tryz.prog 30 #[.agg #[.string t, .slice a n c, .int .i64 q, .bool r]] w fun e w' => e = .returned (.int .i64 (cmsg t q)) ∧ Below w.heap.size w w' := by
  by_cases ht : tcode t = 0
  · have ht' : (tcode t != 0) = false := by simp [ht]
    cases hq : isQ q with
    | true =>
      rw [show cmsg t q = 0 by simp [cmsg, ht, hq]]
      clear ht
      obtain ⟨W, hW⟩ : ∃ W, W = w.alloc (.cells #[.string t, .slice a n c, .int .i64 q, .bool r] 24) := ⟨_, rfl⟩
      have B0 : Hid (Below w.heap.size w W) := by rw [hW]; exact below1 _ _
      have C2 : Hid (W.cell? ⟨w.heap.size, 2, none⟩ = some (.int .i64 q)) := by show _ = _; rw [hW]; exact box_cell w _ _ 2 _ rfl
      go_enter Tryz.func30, Tryz.ntmps30
      go_wp2_with fail
      go_must (go_at_call 103)
      rw [← hW]
      clear hW
      refine (tcheck_any t W).mono ?_
      rintro e w1 ⟨rfl, hb⟩
      have c2 := cell_later hb C2.out
      have B1 : Hid (Below w.heap.size w w1) := B0.out.trans (hb.mono B0.out.size)
      clear hb
      go_wp2_with (go_at_call 104; refine (isQuality_any q _).mono ?_; rintro e w' ⟨rfl, hee⟩; obtain rfl := hee.symm; clear hee; rw [hq])
      go_ret
      exact ⟨rfl, B1.out⟩
    | false =>
      rw [show cmsg t q = 25 by simp [cmsg, ht, hq]]
      clear ht
      obtain ⟨W, hW⟩ : ∃ W, W = w.alloc (.cells #[.string t, .slice a n c, .int .i64 q, .bool r] 24) := ⟨_, rfl⟩
      have B0 : Hid (Below w.heap.size w W) := by rw [hW]; exact below1 _ _
      have C2 : Hid (W.cell? ⟨w.heap.size, 2, none⟩ = some (.int .i64 q)) := by show _ = _; rw [hW]; exact box_cell w _ _ 2 _ rfl
      go_enter Tryz.func30, Tryz.ntmps30
      go_wp2_with fail
      go_must (go_at_call 103)
      rw [← hW]
      clear hW
      refine (tcheck_any t W).mono ?_
      rintro e w1 ⟨rfl, hb⟩
      have c2 := cell_later hb C2.out
      have B1 : Hid (Below w.heap.size w w1) := B0.out.trans (hb.mono B0.out.size)
      clear hb
      go_wp2_with (go_at_call 104; refine (isQuality_any q _).mono ?_; rintro e w' ⟨rfl, hee⟩; obtain rfl := hee.symm; clear hee; rw [hq])
      go_ret
      exact ⟨rfl, B1.out⟩
  · have ht' : (tcode t != 0) = true := by simp [ht]
    rw [show cmsg t q = 23 by simp [cmsg, ht]]
    clear ht
    obtain ⟨W, hW⟩ : ∃ W, W = w.alloc (.cells #[.string t, .slice a n c, .int .i64 q, .bool r] 24) := ⟨_, rfl⟩
    have B0 : Hid (Below w.heap.size w W) := by rw [hW]; exact below1 _ _
    go_enter Tryz.func30, Tryz.ntmps30
    go_wp2_with fail
    go_must (go_at_call 103)
    rw [← hW]
    clear hW
    refine (tcheck_any t W).mono ?_
    rintro e w1 ⟨rfl, hb⟩
    have B1 : Hid (Below w.heap.size w w1) := B0.out.trans (hb.mono B0.out.size)
    clear hb
    go_wp2
    go_ret
    exact ⟨rfl, B1.out⟩

/-- Is nothing of a message set? -/
def zmsg (t : ByteArray) (n : Nat) (q : Int) (r : Bool) : Bool := decide (t.size = 0) && decide (n = 0) && decide (q = 0) && !r
theorem empty_beq (t : ByteArray) : (t.toList == (⟨#[]⟩ : ByteArray).toList) = decide (t.size = 0) := by
  rw [Lib.toList_data, Lib.toList_data]
  obtain ⟨⟨l⟩⟩ := t
  cases l <;> simp [ByteArray.size]

set_option maxHeartbeats 1000000 in
theorem zero_any (t : ByteArray) (a : Option Addr) (n c : Nat) (q : Int) (r : Bool) (w : World) : Calls Tryz.prog 139 #[.agg #[.string t, .slice a n c, .int .i64 q, .bool r]] w fun e w' => e = .returned (.bool (zmsg t n q r)) ∧ Below w.heap.size w w' := by
  have hE := isEmpty_size t
  by_cases h1 : t.size = 0
  · have hE1 : t.toList.isEmpty = true := by
      rw [h1] at hE; revert hE; cases t.toList.isEmpty <;> simp
    clear hE
    by_cases h2 : n = 0
    · have h2' : ((n : Int) == 0) = true := by simp [h2]
      by_cases h3 : q = 0
      · have h3' : (q == 0) = true := by simp [h3]
        cases r with
        | true =>
          rw [show zmsg t n q true = false by simp [zmsg]]
          clear h1 h2 h3
          go_enter Tryz.func139, Tryz.ntmps139
          go_wp2
          go_ret
          exact ⟨rfl, below1 _ _⟩
        | false =>
          rw [show zmsg t n q false = true by simp [zmsg, h1, h2, h3]]
          clear h1 h2 h3
          go_enter Tryz.func139, Tryz.ntmps139
          go_wp2
          go_ret
          exact ⟨rfl, below1 _ _⟩
      · have h3' : (q == 0) = false := by simp [h3]
        rw [show zmsg t n q r = false by simp [zmsg, h3]]
        clear h1 h2 h3
        go_enter Tryz.func139, Tryz.ntmps139
        go_wp2
        go_ret
        exact ⟨rfl, below1 _ _⟩
    · have h2' : ((n : Int) == 0) = false := by simp [h2]
      rw [show zmsg t n q r = false by simp [zmsg, h2]]
      clear h1 h2
      go_enter Tryz.func139, Tryz.ntmps139
      go_wp2
      go_ret
      exact ⟨rfl, below1 _ _⟩
  · have hE1 : t.toList.isEmpty = false := by
      revert hE; cases t.toList.isEmpty <;> simp [h1]
    clear hE
    rw [show zmsg t n q r = false by simp [zmsg, h1]]
    clear h1
    go_enter Tryz.func139, Tryz.ntmps139
    go_wp2
    go_ret
    exact ⟨rfl, below1 _ _⟩
end Go.Proofs.YtdanjbbemmngnaaGreatDoor
