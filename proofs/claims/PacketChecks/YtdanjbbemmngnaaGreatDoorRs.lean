import Derived.Test.YtdanjbbemmngnaaGreatDoorWm
import Derived.Test.YtdanjbbemmngnaaGreatDoorRd
import Derived.Deep.LoopGhost
namespace Go.Proofs.YtdanjbbemmngnaaGreatDoor
open Go Go.RowKit Go.Sort
set_option linter.unusedSimpArgs false
set_option linter.unusedVariables false


set_option maxHeartbeats 1000000 in
theorem sameBytes_eq (s s' : Sl) (z : Nat → Int) (w : World) (h : By w s z) (h' : By w s' z) (hn : s.n = s'.n) (hm : s.n ≤ 1000000) :
    Calls Tryz.prog 33 #[.slice s.a s.n s.c, .slice s'.a s'.n s'.c] w fun e w' => e = .returned (.bool true) ∧ Below w.heap.size w w' := by
  obtain ⟨a, n, c⟩ := s
  obtain ⟨a', n', c'⟩ := s'
  simp only at hn hm
  subst hn
  have HA : Hid (By w ⟨a, n, c⟩ z) := h
  have HB : Hid (By w ⟨a', n, c'⟩ z) := h'
  have B0 : Hid (Below w.heap.size w w) := Below.refl _ _
  clear h h'
  go_enter Tryz.func33, Tryz.ntmps33
  go_wp2_with fail
  go_loopg [5] n (fun gg s5 wx => ∃ (k : Nat), s5 = .int .i64 k ∧ k + gg = n ∧ Hid (Below w.heap.size w wx))
  case atStart => exact ⟨0, rfl, by omega, B0⟩
  case round =>
    obtain ⟨k, rfl, hkg, B1⟩ := hrel
    by_cases hk : k < n
    · have hk' : (k : Int) < n := by omega
      obtain ⟨b, off, he, hc⟩ : ∃ b off, a = some ⟨b, off, none⟩ ∧ ∀ i, i < n → w.cell? ⟨b, off + i, none⟩ = some (.int .u8 (z i)) := by
        rcases HA.out.2.2 with h | h
        · simp only at h; omega
        · exact h
      obtain ⟨b', off', he', hc'⟩ : ∃ b off, a' = some ⟨b, off, none⟩ ∧ ∀ i, i < n → w.cell? ⟨b, off + i, none⟩ = some (.int .u8 (z i)) := by
        rcases HB.out.2.2 with h | h
        · simp only at h; omega
        · exact h
      subst he he'
      have hac : n ≤ c := HA.out.1
      have hac' : n ≤ c' := HB.out.1
      have c0 := cell_later B1.out (hc k hk)
      have d0 := cell_later B1.out (hc' k hk)
      obtain ⟨x, hx⟩ : ∃ x, z k = x := ⟨_, rfl⟩
      rw [hx] at c0 d0
      clear hx hc hc'
      obtain ⟨gg, hg⟩ : ∃ gg, gk = gg + 1 := ⟨gk - 1, by omega⟩
      go_wp2_with fail
      go_region
      all_goals
        go_wp2
        go_roundg gg
        case measure => omega
        case rel => exact ⟨k + 1, by first | rfl | simp, by omega, by first | exact B1 | exact B1.out.drew⟩
    · obtain rfl : k = n := by omega
      have hk' : ¬ (k : Int) < k := by omega
      go_wp2
      go_ret
      exact ⟨rfl, B1.out⟩

set_option maxHeartbeats 1000000 in
theorem sameMessage_eq (t : ByteArray) (q : Int) (r : Bool) (s s' : Sl) (z : Nat → Int) (w : World) (h : By w s z) (h' : By w s' z) (hn : s.n = s'.n) (hm : s.n ≤ 1000000) :
    Calls Tryz.prog 32 #[.agg #[.string t, .slice s.a s.n s.c, .int .i64 q, .bool r], .agg #[.string t, .slice s'.a s'.n s'.c, .int .i64 q, .bool r]] w fun e w' => e = .returned (.bool true) ∧ Below w.heap.size w w' := by
  have HC : Hid (∀ w', Below w.heap.size w w' → Calls Tryz.prog 33 #[.slice s.a s.n s.c, .slice s'.a s'.n s'.c] w' fun e w'' => e = .returned (.bool true) ∧ Below w'.heap.size w' w'') := fun w' hb => sameBytes_eq s s' z w' (h.below hb) (h'.below hb) hn hm
  clear h h' hn hm
  go_enter Tryz.func32, Tryz.ntmps32
  go_wp2_with fail
  go_must (go_at_call 33)
  refine (HC.out _ (below2 _ _ _)).mono ?_
  rintro e w1 ⟨rfl, hb⟩
  have B1 : Hid (Below w.heap.size w w1) := (below2 w _ _).trans (hb.mono (below2 w _ _).size)
  clear hb
  go_wp2
  go_ret
  exact ⟨rfl, B1.out⟩

theorem neq_ask (t t' : ByteArray) (q q' : Int) (w : World) : (binOp .neq 78 (.agg #[.string t, .int .i64 q]) (.agg #[.string t', .int .i64 q'])).run Tryz.prog w = .ok (.bool (!((t.toList == t'.toList) && (q == q')))) w := by
  have hu : Tryz.prog.underlying 78 = some (.struct (Tryz.prog.fieldsOf 78)) := by kernel_rfl
  have hp : Tryz.prog.stoodInHeld 78 = false := by kernel_rfl
  rw [run_neq_struct, run_equalIn_agg w 9999 78 _ _ hu hp]
  clear hu hp
  simp only [Program.fieldsOf, Tryz.underlying78]
  cases h1 : (t.toList == t'.toList)
  · go_simp
  · cases h2 : (q == q')
    · go_simp
    · go_simp
theorem neq_ask_eq (t : ByteArray) (q : Int) (w : World) : (binOp .neq 78 (.agg #[.string t, .int .i64 q]) (.agg #[.string t, .int .i64 q])).run Tryz.prog w = .ok (.bool false) w := by
  rw [neq_ask]; simp

/-- A packet with other lists. -/
def Pk.re (p : Pk) (s1 s2 s3 s4 s5 s6 : Sl) : Pk := { p with wP := s1, pass := s2, mP := s3, asks := s4, codes := s5, filters := s6 }
end Go.Proofs.YtdanjbbemmngnaaGreatDoor
