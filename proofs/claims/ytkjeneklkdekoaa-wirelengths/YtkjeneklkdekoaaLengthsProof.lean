import Derived.Test.YtkjeneklkdekoaaRows
import Derived.Test.YtkjeneklkdekoaaRfive
import Derived.WalkKit
import Derived.ProofKit
import Derived.OpenShut
import Derived.ShutString
import Derived.ChangeOld
import Derived.Below
namespace Go.Proofs.Ytkjeneklkdekoaa.wireLengths
open Go.ChangeShapes Go.WideShapes Go.ChangeAt Go.RowKit
open Go.ChangeMaps (open_string shut_string)
set_option linter.unusedVariables false

theorem own : ownKnob Try.prog.godebug = none := by kernel_rfl
theorem laidOut : laidOutB Try.prog = true := by kernel_rfl

def IsRow (k : IntKind) (w : World) (a : Option Addr) (len cap : Nat) (zs : List Int) : Prop :=
  (a = none ∧ len = 0 ∧ cap = 0 ∧ zs = []) ∨
  ∃ x, a = some x ∧ len ≤ cap ∧ cap ≤ maxLen ∧ zs.length = cap ∧ (∀ i, i < zs.length → w.cell? (x.add i) = some (.int k (zs.getD i 0))) ∧ ∀ n ∈ zs, (Lit.int k n).wf = true

theorem isRow_came {w : World} {a : Option Addr} {len cap : Nat} {zs : List Int} (h : IsRow .u8 w a len cap zs) : Came w a len cap (fun i => zs.getD i 0) := by
  rcases h with ⟨rfl, rfl, rfl, rfl⟩ | ⟨x, rfl, hl, hm, hz, hcell, hwz⟩
  · exact ⟨Nat.le_refl _, fun i => by simp, .inl ⟨rfl, rfl, rfl⟩⟩
  · refine ⟨hl, fun i => ?_, .inr ⟨x, rfl, fun i hi => hcell i (by omega)⟩⟩
    have h := range_u8 hwz i
    simpa using h

set_option maxHeartbeats 400000 in
theorem num_any (n : Int) (w : World) :
    Calls Try.prog 7 #[.int .i64 n] w fun e w' => e = .returned (.int .i64 n) ∧ w' = w := by
  go_enter Try.func7, Try.ntmps7
  go_wp2
  go_ret
  exact ⟨rfl, rfl⟩

set_option maxRecDepth 100000 in
set_option maxHeartbeats 1000000 in
theorem walk (a0 : Option Addr) (len0 cap0 : Nat) (z0 : List Int) (w : World) (w0 : IsRow .u8 w a0 len0 cap0 z0) :
    Calls Try.prog 4 #[.slice a0 len0 cap0] w fun e w' => e = .returned (.bool true) ∧ Below w.heap.size w w' := by
  have hc := isRow_came w0
  clear w0
  obtain ⟨z, hz⟩ : ∃ z, (fun i => z0.getD i 0) = z := ⟨_, rfl⟩
  rw [hz] at hc
  clear hz
  by_cases hl : 140000 < len0
  · have hl' : (140000 : Int) < len0 := by omega
    clear hc
    go_enter Try.func4, Try.ntmps4
    go_wp2
    go_ret
    exact ⟨rfl, Below.refl _ _⟩
  · have hl' : ¬ (140000 : Int) < len0 := by omega
    have hm : len0 ≤ 140000 := by omega
    obtain ⟨n, k, e, hlen⟩ : ∃ n k e, lenZ len0 z = (n, k, e) := ⟨_, _, _, rfl⟩
    have HL : Hid (lenZ len0 z = (n, k, e)) := hlen
    have HC : Hid (Came w a0 len0 cap0 z) := hc
    have HB : Hid (Calls Try.prog 8 #[.pointer (some ⟨w.heap.size, 0, none⟩), .slice a0 len0 cap0] (w.alloc (.cells nil28 47)) fun e w' => ∃ g cp gb cb ga ca, e = .returned (.slice (some ⟨g, 0, none⟩) len0 (len0 + 600)) ∧
      RoomOk w' w.heap.size 1 gb cb ga ca (fun _ => g) (fun _ => len0) (fun _ => cp) ∧ Came w' (some ⟨g, 0, none⟩) len0 (len0 + 600) z ∧ Below w.heap.size w w') := bytes_first a0 len0 cap0 z w hm hc
    have c9 : Hid (∀ w ao cap, Came w ao len0 cap z → Calls Try.prog 9 #[.slice ao len0 cap] w fun q w' => q = .returned (.tuple #[.int .i64 n, .int .i64 k, .int .i64 e]) ∧ w' = w) := fun w ao cap h => by
      have t := wlen_any ao len0 cap z w (came_byt h) (by omega)
      rw [hlen] at t
      exact t
    have c10 : Hid (∀ w ao cap, Came w ao len0 cap z → Calls Try.prog 10 #[.slice ao len0 cap] w fun q w' => q = .returned (.tuple #[.int .i64 n, .int .i64 k, .int .i64 e]) ∧ w' = w) := fun w ao cap h => by
      have t := rlen_any ao len0 cap z w (came_byt h) (by omega)
      rw [hlen] at t
      exact t
    have c11 : Hid (∀ w ao cap ao' cap', Came w ao len0 cap z → Came w ao' len0 cap' z → Calls Try.prog 11 #[.slice ao len0 cap, .slice ao' len0 cap'] w fun q w' => q = .returned (.bool true) ∧ w' = w) := fun w ao cap ao' cap' h h' => by
      have t := same_any ao ao' len0 cap len0 cap' z z w h h'
      rw [beq_self_eq_true] at t
      exact t
    clear hlen hc
    go_enter Try.func4, Try.ntmps4
    go_wp2_with (go_at_call 8; refine HB.out.mono ?_; rintro e w1 ⟨g, cp, gb, cb, ga, ca, rfl, hroom, hcame, hbel⟩; have RM : Hid (RoomOk w1 w.heap.size 1 gb cb ga ca (fun _ => g) (fun _ => len0) (fun _ => cp)) := hroom; have CM : Hid (Came w1 (some ⟨g, 0, none⟩) len0 (len0 + 600) z) := hcame; have BL : Hid (Below w.heap.size w w1) := hbel; have CA : Hid (Came w1 a0 len0 cap0 z) := came_below (B := 0) HC.out hbel; clear hroom hcame hbel)
    go_must (go_at_call 9)
    refine (c9.out _ _ _ CM.out).mono ?_
    rintro q w2 ⟨rfl, rfl⟩
    go_wp2_with fail
    go_must (go_at_call 10)
    refine (c10.out _ _ _ CA.out).mono ?_
    rintro q w3 ⟨rfl, rfl⟩
    go_wp2_with fail
    go_must (go_at_call 7)
    refine (num_any _ _).mono ?_
    rintro q w4 ⟨rfl, rfl⟩
    go_wp2_with fail
    go_must (go_at_call 11)
    refine (c11.out _ _ _ _ _ CM.out CA.out).mono ?_
    rintro q w5 ⟨rfl, rfl⟩
    go_wp2_with fail
    go_must (go_at_call 12)
    refine (hold_any _ _ _ _ _ _ _ _ _ _ RM.out).mono ?_
    rintro q w6 ⟨rfl, rfl⟩
    go_wp2
    go_ret
    exact ⟨rfl, BL.out⟩

set_option maxRecDepth 100000 in
theorem lifted (os : Os) (started : os.Started) (H : Type) (enc : TypeId × Value → H) :
    ReturnsInHanded {} Try.checked os 4 .any (Rows.wireLengthsSpec.pre6 enc Try.prog Try.f4 Rows.wireLengthsRow.domain false) (Rows.wireLengthsSpec.post enc Try.prog Try.f4 false true false false) := by
  refine returnsInHanded_of_change (C := Try.checked) own started (by kernel_rfl) Try.func4
    (ChangeSpec.witness6 (enc := enc) (C := Try.checked) false ⟨#[], #[.slice none 0 0], []⟩ 8 (by kernel_rfl) (by kernel_rfl) (by kernel_rfl) (by kernel_rfl)) ?_
  intro W base args ds gs before hval0 hW hcnd _
  have hval : ∀ (j : Nat) t v, Try.f4.params[j]? = some t → args[j]? = some v → Value.okWide Try.prog W .any base t v := hval0
  have hW' := hW
  obtain ⟨p, q, hA0, hV, rfl, hfz, hnd⟩ := hW
  have hA : DataW.TrodAll enc Try.prog W 0 (fun _ => true) true Try.f4.params.toList args.toList ds p := hA0
  rw [Try.params4] at hA hval
  obtain ⟨v0, vs0, d0, ds0, p0, q0, hargs, rfl, rfl, h0, r0⟩ := trodAll_cons hA
  obtain ⟨rfl, rfl, rfl⟩ := trodAll_nil r0
  obtain rfl : args = #[v0] := by cases args; simp_all
  obtain ⟨rfl, rfl⟩ := trodVars_none hV
  obtain ⟨a0, len0, cap0, rfl⟩ := okWide_slice Try.underlying29 (hval 0 29 v0 rfl rfl)
  have k0 := h0
  have lt0 : ∀ x ∈ p0, x.block < W.heap.size := by obtain ⟨m, hm⟩ := k0; exact DataW.trod_lt m _ _ _ hm
  obtain ⟨z0, w0⟩ : ∃ zs, IsRow .u8 W a0 len0 cap0 zs := by
    obtain ⟨fuel, hf⟩ := h0
    rcases open_ints Try.underlying29 Try.underlying5 (by kernel_rfl) hf with ⟨hcs, _⟩ | ⟨x, l, c, zs, hcs, _, hl, hm, hz, _, hcell, hwz⟩
    · simp [Value.cells] at hcs
      obtain ⟨rfl, rfl, rfl⟩ := hcs
      exact ⟨[], .inl ⟨rfl, rfl, rfl, rfl⟩⟩
    · simp [Value.cells] at hcs
      obtain ⟨rfl, rfl, rfl⟩ := hcs
      exact ⟨zs, .inr ⟨_, rfl, hl, hm, by simpa using hz, hcell, hwz⟩⟩
  clear hA0 hval0
  refine (walk a0 len0 cap0 z0 W w0).mono fun e W' ⟨he, bel⟩ => ?_
  subst he
  exact ⟨_, rfl, _, _, _, [], _, [], hW', trodAll_mk1 (shut_bool Try.underlying4 _), (trodAll_cons_mk (Below.trod laidOut (by kernel_rfl) (of_decide_eq_true (by kernel_rfl)) k0 bel lt0) trodAll_mk0), rfl, bel.frame _, fun h => by cases h⟩

theorem over : Rows.wireLengthsRow.holds Try.pinned (OpenSpec.ofChange Rows.wireLengthsSpec) :=
  OpenClaim.holds_of_wide 4 Try.f4 rfl rfl rfl rfl rfl rfl rfl ⟨rfl, rfl, rfl, rfl, rfl⟩ rfl rfl rfl rfl rfl (by kernel_rfl) Try.func4 (by kernel_rfl)
    (of_decide_eq_true (by kernel_rfl)) (by unfold Func.isWrapper; first | (rw [if_pos (by decide +kernel)]; kernel_rfl) | (rw [if_neg (by decide +kernel)]; exact ⟨rfl, rfl⟩))
    (fun os started H enc _ => lifted os started H enc)

theorem proved : Rows.WireLengthsSaid := over
end Go.Proofs.Ytkjeneklkdekoaa.wireLengths

namespace Go.Proofs.Ytkjeneklkdekoaa
theorem wireLengths_holds : Rows.WireLengthsSaid := wireLengths.proved
#print axioms wireLengths_holds
end Go.Proofs.Ytkjeneklkdekoaa
