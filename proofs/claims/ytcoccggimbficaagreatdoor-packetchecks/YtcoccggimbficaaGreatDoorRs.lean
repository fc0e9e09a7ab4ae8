import Derived.Test.YtcoccggimbficaaGreatDoorRc
import Derived.Test.YtcoccggimbficaaGreatDoorWm
import Derived.Deep.LoopGhost
namespace Go.Proofs.YtcoccggimbficaaGreatDoor
open Go Go.RowKit Go.Sort
set_option linter.unusedSimpArgs false
set_option linter.unusedVariables false

/-- What is told of a message. -/
def cmsg (t : ByteArray) (q : Int) : Int := if tcode t ≠ 0 then 23 else if isQ q then 0 else 25

theorem below1 (w : World) (o : Obj) : Below w.heap.size w (w.alloc o) := (Below.refl _ _).alloc (Nat.le_refl _) _

set_option maxHeartbeats 1000000 in
theorem rmsg_any (t : ByteArray) (a : Option Addr) (n c : Nat) (q : Int) (r : Bool) (w : World) : Calls Tryz.prog 31 #[.agg #[.string t, .slice a n c, .int .i64 q, .bool r]] w fun e w' => e = .returned (.int .i64 (cmsg t q)) ∧ Below w.heap.size w w' := by
  by_cases ht : tcode t = 0
  · have ht' : (tcode t != 0) = false := by simp [ht]
    have HQ : Hid (isQ q = (decide (0 ≤ q) && decide (q ≤ 2))) := rfl
    cases hq : isQ q with
    | true =>
      rw [show cmsg t q = 0 by simp [cmsg, ht, hq]]
      clear ht
      go_enter Tryz.func31, Tryz.ntmps31
      go_wp2_with (first | (go_at_call 105; refine (rcheck_any t _).mono ?_; rintro e w' ⟨rfl, hee⟩; obtain rfl := hee.symm; clear hee) | (go_at_call 95; refine (within_any q 2 _).mono ?_; rintro e w' ⟨rfl, hee⟩; obtain rfl := hee.symm; clear hee; rw [← HQ.out, hq]))
      go_ret
      exact ⟨rfl, below1 _ _⟩
    | false =>
      rw [show cmsg t q = 25 by simp [cmsg, ht, hq]]
      clear ht
      go_enter Tryz.func31, Tryz.ntmps31
      go_wp2_with (first | (go_at_call 105; refine (rcheck_any t _).mono ?_; rintro e w' ⟨rfl, hee⟩; obtain rfl := hee.symm; clear hee) | (go_at_call 95; refine (within_any q 2 _).mono ?_; rintro e w' ⟨rfl, hee⟩; obtain rfl := hee.symm; clear hee; rw [← HQ.out, hq]))
      go_ret
      exact ⟨rfl, below1 _ _⟩
  · have ht' : (tcode t != 0) = true := by simp [ht]
    rw [show cmsg t q = 23 by simp [cmsg, ht]]
    clear ht
    go_enter Tryz.func31, Tryz.ntmps31
    go_wp2_with (go_at_call 105; refine (rcheck_any t _).mono ?_; rintro e w' ⟨rfl, hee⟩; obtain rfl := hee.symm; clear hee)
    go_ret
    exact ⟨rfl, below1 _ _⟩

set_option maxHeartbeats 1000000 in
theorem pmsg_any (t : ByteArray) (a : Option Addr) (n c : Nat) (q : Int) (r : Bool) (w : World) : Calls Tryz.prog 30 #[.agg #[.string t, .slice a n c, .int .i64 q, .bool r]] w fun e w' => e = .returned (.int .i64 (cmsg t q)) ∧ Below w.heap.size w w' := by
  by_cases ht : tcode t = 0
  · have ht' : (tcode t != 0) = false := by simp [ht]
    cases hq : isQ q with
    | true =>
      rw [show cmsg t q = 0 by simp [cmsg, ht, hq]]
      clear ht
      obtain ⟨W, hW⟩ : ∃ W, W = w.alloc (.cells #[.string t, .slice a n c, .int .i64 q, .bool r] 24) := ⟨_, rfl⟩
      have B0 : Hid (Below w.heap.size w W) := by rw [hW]; exact below1 _ _
      have C2 : Hid (W.cell? ⟨w.heap.size, 2, none⟩ = some (.int .i64 q)) := by show _ = _; rw [hW]; exact box_cell w _ _ 2 _ rfl
      go_enter Tryz.func30, Tryz.ntmps30
      go_wp2_with fail
      go_must (go_at_call 103)
      rw [← hW]
      clear hW
      refine (tcheck_any t W).mono ?_
      rintro e w1 ⟨rfl, hb⟩
      have c2 := cell_later hb C2.out
      have B1 : Hid (Below w.heap.size w w1) := B0.out.trans (hb.mono B0.out.size)
      clear hb
      go_wp2_with (go_at_call 104; refine (isQuality_any q _).mono ?_; rintro e w' ⟨rfl, hee⟩; obtain rfl := hee.symm; clear hee; rw [hq])
      go_ret
      exact ⟨rfl, B1.out⟩
    | false =>
      rw [show cmsg t q = 25 by simp [cmsg, ht, hq]]
      clear ht
      obtain ⟨W, hW⟩ : ∃ W, W = w.alloc (.cells #[.string t, .slice a n c, .int .i64 q, .bool r] 24) := ⟨_, rfl⟩
      have B0 : Hid (Below w.heap.size w W) := by rw [hW]; exact below1 _ _
      have C2 : Hid (W.cell? ⟨w.heap.size, 2, none⟩ = some (.int .i64 q)) := by show _ = _; rw [hW]; exact box_cell w _ _ 2 _ rfl
      go_enter Tryz.func30, Tryz.ntmps30
      go_wp2_with fail
      go_must (go_at_call 103)
      rw [← hW]
      clear hW
      refine (tcheck_any t W).mono ?_
      rintro e w1 ⟨rfl, hb⟩
      have c2 := cell_later hb C2.out
      have B1 : Hid (Below w.heap.size w w1) := B0.out.trans (hb.mono B0.out.size)
      clear hb
      go_wp2_with (go_at_call 104; refine (isQuality_any q _).mono ?_; rintro e w' ⟨rfl, hee⟩; obtain rfl := hee.symm; clear hee; rw [hq])
      go_ret
      exact ⟨rfl, B1.out⟩
  · have ht' : (tcode t != 0) = true := by simp [ht]
    rw [show cmsg t q = 23 by simp [cmsg, ht]]
    clear ht
    obtain ⟨W, hW⟩ : ∃ W, W = w.alloc (.cells #[.string t, .slice a n c, .int .i64 q, .bool r] 24) := ⟨_, rfl⟩
    have B0 : Hid (Below w.heap.size w W) := by rw [hW]; exact below1 _ _
    go_enter Tryz.func30, Tryz.ntmps30
    go_wp2_with fail
    go_must (go_at_call 103)
    rw [← hW]
    clear hW
    refine (tcheck_any t W).mono ?_
    rintro e w1 ⟨rfl, hb⟩
    have B1 : Hid (Below w.heap.size w w1) := B0.out.trans (hb.mono B0.out.size)
    clear hb
    go_wp2
    go_ret
    exact ⟨rfl, B1.out⟩

/-- Is nothing of a message set? -/
def zmsg (t : ByteArray) (n : Nat) (q : Int) (r : Bool) : Bool := decide (t.size = 0) && decide (n = 0) && decide (q = 0) && !r
set_option maxHeartbeats 1000000 in
theorem zero_any (t : ByteArray) (a : Option Addr) (n c : Nat) (q : Int) (r : Bool) (w : World) : Calls Tryz.prog 139 #[.agg #[.string t, .slice a n c, .int .i64 q, .bool r]] w fun e w' => e = .returned (.bool (zmsg t n q r)) ∧ Below w.heap.size w w' := by
  have hE := isEmpty_size t
  by_cases h1 : t.size = 0
  · have hE1 : t.toList.isEmpty = true := by
      rw [h1] at hE; revert hE; cases t.toList.isEmpty <;> simp
    clear hE
    by_cases h2 : n = 0
    · have h2' : ((n : Int) == 0) = true := by simp [h2]
      by_cases h3 : q = 0
      · have h3' : (q == 0) = true := by simp [h3]
        cases r with
        | true =>
          rw [show zmsg t n q true = false by simp [zmsg]]
          clear h1 h2 h3
          go_enter Tryz.func139, Tryz.ntmps139
          go_wp2
          go_ret
          exact ⟨rfl, below1 _ _⟩
        | false =>
          rw [show zmsg t n q false = true by simp [zmsg, h1, h2, h3]]
          clear h1 h2 h3
          go_enter Tryz.func139, Tryz.ntmps139
          go_wp2
          go_ret
          exact ⟨rfl, below1 _ _⟩
      · have h3' : (q == 0) = false := by simp [h3]
        rw [show zmsg t n q r = false by simp [zmsg, h3]]
        clear h1 h2 h3
        go_enter Tryz.func139, Tryz.ntmps139
        go_wp2
        go_ret
        exact ⟨rfl, below1 _ _⟩
    · have h2' : ((n : Int) == 0) = false := by simp [h2]
      rw [show zmsg t n q r = false by simp [zmsg, h2]]
      clear h1 h2
      go_enter Tryz.func139, Tryz.ntmps139
      go_wp2
      go_ret
      exact ⟨rfl, below1 _ _⟩
  · have hE1 : t.toList.isEmpty = false := by
      revert hE; cases t.toList.isEmpty <;> simp [h1]
    clear hE
    rw [show zmsg t n q r = false by simp [zmsg, h1]]
    clear h1
    go_enter Tryz.func139, Tryz.ntmps139
    go_wp2
    go_ret
    exact ⟨rfl, below1 _ _⟩
end Go.Proofs.YtcoccggimbficaaGreatDoor
namespace Go.Proofs.YtcoccggimbficaaGreatDoor
open Go Go.RowKit Go.Sort
set_option linter.unusedSimpArgs false
set_option linter.unusedVariables false


set_option maxHeartbeats 1000000 in
theorem sameBytes_eq (s s' : Sl) (z : Nat → Int) (w : World) (h : By w s z) (h' : By w s' z) (hn : s.n = s'.n) (hm : s.n ≤ 1000000) :
    Calls Tryz.prog 33 #[.slice s.a s.n s.c, .slice s'.a s'.n s'.c] w fun e w' => e = .returned (.bool true) ∧ Below w.heap.size w w' := by
  obtain ⟨a, n, c⟩ := s
  obtain ⟨a', n', c'⟩ := s'
  simp only at hn hm
  subst hn
  have HA : Hid (By w ⟨a, n, c⟩ z) := h
  have HB : Hid (By w ⟨a', n, c'⟩ z) := h'
  have B0 : Hid (Below w.heap.size w w) := Below.refl _ _
  clear h h'
  go_enter Tryz.func33, Tryz.ntmps33
  go_wp2_with fail
  go_loopg [5] n (fun gg s5 wx => ∃ (k : Nat), s5 = .int .i64 k ∧ k + gg = n ∧ Hid (Below w.heap.size w wx))
  case atStart => exact ⟨0, rfl, by omega, B0⟩
  case round =>
    obtain ⟨k, rfl, hkg, B1⟩ := hrel
    by_cases hk : k < n
    · have hk' : (k : Int) < n := by omega
      obtain ⟨b, off, he, hc⟩ : ∃ b off, a = some ⟨b, off, none⟩ ∧ ∀ i, i < n → w.cell? ⟨b, off + i, none⟩ = some (.int .u8 (z i)) := by
        rcases HA.out.2.2 with h | h
        · simp only at h; omega
        · exact h
      obtain ⟨b', off', he', hc'⟩ : ∃ b off, a' = some ⟨b, off, none⟩ ∧ ∀ i, i < n → w.cell? ⟨b, off + i, none⟩ = some (.int .u8 (z i)) := by
        rcases HB.out.2.2 with h | h
        · simp only at h; omega
        · exact h
      subst he he'
      have hac : n ≤ c := HA.out.1
      have hac' : n ≤ c' := HB.out.1
      have c0 := cell_later B1.out (hc k hk)
      have d0 := cell_later B1.out (hc' k hk)
      obtain ⟨x, hx⟩ : ∃ x, z k = x := ⟨_, rfl⟩
      rw [hx] at c0 d0
      clear hx hc hc'
      obtain ⟨gg, hg⟩ : ∃ gg, gk = gg + 1 := ⟨gk - 1, by omega⟩
      go_wp2_with fail
      go_region
      all_goals
        go_wp2
        go_roundg gg
        case measure => omega
        case rel => exact ⟨k + 1, by first | rfl | simp, by omega, by first | exact B1 | exact B1.out.drew⟩
    · obtain rfl : k = n := by omega
      have hk' : ¬ (k : Int) < k := by omega
      go_wp2
      go_ret
      exact ⟨rfl, B1.out⟩

set_option maxHeartbeats 1000000 in
theorem sameMessage_eq (t : ByteArray) (q : Int) (r : Bool) (s s' : Sl) (z : Nat → Int) (w : World) (h : By w s z) (h' : By w s' z) (hn : s.n = s'.n) (hm : s.n ≤ 1000000) :
    Calls Tryz.prog 32 #[.agg #[.string t, .slice s.a s.n s.c, .int .i64 q, .bool r], .agg #[.string t, .slice s'.a s'.n s'.c, .int .i64 q, .bool r]] w fun e w' => e = .returned (.bool true) ∧ Below w.heap.size w w' := by
  have HC : Hid (∀ w', Below w.heap.size w w' → Calls Tryz.prog 33 #[.slice s.a s.n s.c, .slice s'.a s'.n s'.c] w' fun e w'' => e = .returned (.bool true) ∧ Below w'.heap.size w' w'') := fun w' hb => sameBytes_eq s s' z w' (h.below hb) (h'.below hb) hn hm
  clear h h' hn hm
  go_enter Tryz.func32, Tryz.ntmps32
  go_wp2_with fail
  go_must (go_at_call 33)
  refine (HC.out _ (below2 _ _ _)).mono ?_
  rintro e w1 ⟨rfl, hb⟩
  have B1 : Hid (Below w.heap.size w w1) := (below2 w _ _).trans (hb.mono (below2 w _ _).size)
  clear hb
  go_wp2
  go_ret
  exact ⟨rfl, B1.out⟩

theorem neq_ask (t t' : ByteArray) (q q' : Int) (w : World) : (binOp .neq 78 (.agg #[.string t, .int .i64 q]) (.agg #[.string t', .int .i64 q'])).run Tryz.prog w = .ok (.bool (!((t.toList == t'.toList) && (q == q')))) w := by
  have hu : Tryz.prog.underlying 78 = some (.struct (Tryz.prog.fieldsOf 78)) := by kernel_rfl
  have hp : Tryz.prog.stoodInHeld 78 = false := by kernel_rfl
  rw [run_neq_struct, run_equalIn_agg w 9999 78 _ _ hu hp]
  clear hu hp
  simp only [Program.fieldsOf, Tryz.underlying78]
  cases h1 : (t.toList == t'.toList)
  · go_simp
  · cases h2 : (q == q')
    · go_simp
    · go_simp
theorem neq_ask_eq (t : ByteArray) (q : Int) (w : World) : (binOp .neq 78 (.agg #[.string t, .int .i64 q]) (.agg #[.string t, .int .i64 q])).run Tryz.prog w = .ok (.bool false) w := by
  rw [neq_ask]; simp

/-- A packet with other lists. -/
def Pk.re (p : Pk) (s1 s2 s3 s4 s5 s6 : Sl) : Pk := { p with wP := s1, pass := s2, mP := s3, asks := s4, codes := s5, filters := s6 }
end Go.Proofs.YtcoccggimbficaaGreatDoor
