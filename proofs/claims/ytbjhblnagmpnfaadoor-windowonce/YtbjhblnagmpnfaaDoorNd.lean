import Derived.Test.YtbjhblnagmpnfaaDoorNc
namespace Go.Proofs.YtbjhblnagmpnfaaDoor
open Go Go.RowKit
set_option linter.unusedSimpArgs false
set_option linter.unusedVariables false
theorem anot_bt (x : Nat) (hx : x < 18446744073709551616) (id : Nat) : bits BinOp.andNot IntKind.u64 (x : Int) (bt id : Int) = ((x &&& (18446744073709551615 - bt id) : Nat) : Int) := u64_andNot_nat x (bt id) hx (bt_lt id)
set_option maxRecDepth 100000 in
set_option maxHeartbeats 1000000 in
/-- A number is taken out: what is left in its word is kept, or the word goes, and with the last one the map. -/
theorem drop_walk (nb i id mb : Nat) (hid : id ≤ 65535) (x y n : Nat) (w w2 : World) (hc : w.cell? ⟨nb, i, none⟩ = some (.map (some mb))) (hx : x < 18446744073709551616) (hy : y = x &&& (18446744073709551615 - bt id))
    (hl : (Instr.lookup 71 (.map (some mb)) (.int .i64 ((id : Int) / 64)) false).run Tryd.prog w.drew = .ok (.int .u64 x) w.drew)
    (hm : (Instr.mapUpdate 71 (.map (some mb)) (.int .i64 ((id : Int) / 64)) (.int .u64 (y : Int))).run Tryd.prog w.drew = .ok () w2)
    (hc2 : w2.cell? ⟨nb, i, none⟩ = some (.map (some mb)))
    (hl2 : (Instr.lookup 71 (.map (some mb)) (.int .i64 ((id : Int) / 64)) false).run Tryd.prog w2 = .ok (.int .u64 (y : Int)) w2)
    (w3 : World) (hw3 : y ≠ 0 → w3 = w2)
    (hd : y = 0 → (Builtin.delete_ #[71, 3] 0 #[.map (some mb), .int .i64 ((id : Int) / 64)]).run Tryd.prog w2 = .ok (.tuple #[]) w3)
    (hc3 : w3.cell? ⟨nb, i, none⟩ = some (.map (some mb))) (hf3 : w3.frozen? ⟨nb, i, none⟩ = false)
    (hn : (Builtin.len_ #[71] 3 #[.map (some mb)]).run Tryd.prog w3 = .ok (.int .i64 n) w3)
    {R : World → Prop} (hR1 : n = 0 → R (w3.setCell ⟨nb, i, none⟩ (.map none))) (hR2 : n ≠ 0 → R w3) :
    Calls Tryd.prog 32 #[.pointer (some ⟨nb, i, none⟩), .int .i64 id] w fun e w' => e = .returned (.tuple #[]) ∧ R w' := by
  have hb := bit_any id
  have hwr : IntKind.i64.wrap ((id : Int) / 64) = (id : Int) / 64 := by rw [IntKind.wrap_i64]; omega
  have hq := anot_bt x hx id
  rw [← hy] at hq
  clear hy
  obtain ⟨bY, hbY⟩ : ∃ bY, ((y : Int) == 0) = bY := ⟨_, rfl⟩
  obtain ⟨bN, hbN⟩ : ∃ bN, ((n : Int) == 0) = bN := ⟨_, rfl⟩
  have H1 : Hid (bY = false → w3 = w2) := fun q => hw3 (fun e => by subst e; rw [q] at hbY; simp at hbY)
  have H2 : Hid (bY = true → (Builtin.delete_ #[71, 3] 0 #[.map (some mb), .int .i64 ((id : Int) / 64)]).run Tryd.prog w2 = .ok (.tuple #[]) w3) := fun q => hd (by rw [q] at hbY; simpa using hbY)
  have H3 : Hid (bN = true → R (w3.setCell ⟨nb, i, none⟩ (.map none))) := fun q => hR1 (by rw [q] at hbN; simpa using hbN)
  have H4 : Hid (bN = false → R w3) := fun q => hR2 (by rw [q] at hbN; simpa using hbN)
  clear hw3 hd hR1 hR2
  have key : Hid (R (if bN then w3.setCell ⟨nb, i, none⟩ (.map none) else w3)) := by
    cases bN
    · exact H4.out rfl
    · exact H3.out rfl
  cases bY <;> cases bN
  · have e3 := H1.out rfl
    subst e3
    have r : Hid (R w3) := key
    clear H1 H2 H3 H4 key
    go_enter Tryd.func32, Tryd.ntmps32
    go_wp2_with fail
    go_region_with (go_at_call 49; refine (hb _).mono ?_; rintro e w' ⟨rfl, rfl⟩)
    all_goals go_wp2_with fail
    all_goals go_end0
    all_goals exact ⟨rfl, r.out⟩
  · have e3 := H1.out rfl
    subst e3
    have r : Hid (R (w3.setCell ⟨nb, i, none⟩ (.map none))) := key
    clear H1 H2 H3 H4 key
    go_enter Tryd.func32, Tryd.ntmps32
    go_wp2_with fail
    go_region_with (go_at_call 49; refine (hb _).mono ?_; rintro e w' ⟨rfl, rfl⟩)
    all_goals go_wp2_with fail
    all_goals go_end0
    all_goals exact ⟨rfl, r.out⟩
  · have hd := H2.out rfl
    have r : Hid (R w3) := key
    clear H1 H2 H3 H4 key
    go_enter Tryd.func32, Tryd.ntmps32
    go_wp2_with fail
    go_region_with (go_at_call 49; refine (hb _).mono ?_; rintro e w' ⟨rfl, rfl⟩)
    all_goals go_wp2_with fail
    all_goals go_end0
    all_goals exact ⟨rfl, r.out⟩
  · have hd := H2.out rfl
    have r : Hid (R (w3.setCell ⟨nb, i, none⟩ (.map none))) := key
    clear H1 H2 H3 H4 key
    go_enter Tryd.func32, Tryd.ntmps32
    go_wp2_with fail
    go_region_with (go_at_call 49; refine (hb _).mono ?_; rintro e w' ⟨rfl, rfl⟩)
    all_goals go_wp2_with fail
    all_goals go_end0
    all_goals exact ⟨rfl, r.out⟩
end Go.Proofs.YtbjhblnagmpnfaaDoor
