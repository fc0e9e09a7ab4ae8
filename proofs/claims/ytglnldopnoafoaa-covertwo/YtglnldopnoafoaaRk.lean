import Derived.Test.YtglnldopnoafoaaAa
import Derived.Laws.AppendOwn
import Derived.Laws.OwnMore
import Derived.Deep.LoopGhost
import Derived.OwnWalk
namespace Go.Proofs.Ytglnldopnoafoaa
open Go Go.RowKit
set_option linter.unusedSimpArgs false
set_option linter.unusedVariables false

/-- The levels from a place on, the first of which began earlier. -/
def lvs (s : ByteArray) : Nat → Nat → Nat → List ByteArray
  | 0, f, _ => [s.extract f s.size]
  | b + 1, f, i => if i < s.size then (if atB s i = 47 then s.extract f i :: lvs s b (i + 1) (i + 1) else lvs s b f (i + 1)) else [s.extract f s.size]
def levels (s : ByteArray) : List ByteArray := lvs s s.size 0 0
theorem lvs_end (s : ByteArray) (b f i : Nat) (h : ¬ i < s.size) : lvs s b f i = [s.extract f s.size] := by
  cases b with
  | zero => rfl
  | succ b => simp [lvs, h]
theorem lvs_cut (s : ByteArray) (b f i : Nat) (h : i < s.size) (hb : s.size ≤ i + b) (hc : atB s i = 47) : ∃ b', lvs s b f i = s.extract f i :: lvs s b' (i + 1) (i + 1) ∧ s.size ≤ i + 1 + b' := by
  cases b with
  | zero => omega
  | succ b => exact ⟨b, by simp [lvs, h, hc], by omega⟩
theorem lvs_on (s : ByteArray) (b f i : Nat) (h : i < s.size) (hb : s.size ≤ i + b) (hc : ¬ atB s i = 47) : ∃ b', lvs s b f i = lvs s b' f (i + 1) ∧ s.size ≤ i + 1 + b' := by
  cases b with
  | zero => omega
  | succ b => exact ⟨b, by simp [lvs, h, hc], by omega⟩

set_option maxRecDepth 100000 in
set_option maxHeartbeats 2000000 in
theorem levels_any (s : ByteArray) (hs : s.size ≤ 1000000) (w : World) : Calls Try.prog 29 #[.string s] w fun e w' => ∃ v, e = .returned v ∧ w'.ownsRow w.heap.size 9 1 v (levels s).length ((levels s).map Value.string) ∧ Below w.heap.size w w' := by
  obtain ⟨i0, hi, hz0, hz1, hz2⟩ : ∃ i0, Try.prog.info? 9 = some i0 ∧ i0.zero = some (.string ⟨#[]⟩) ∧ i0.size = 1 ∧ i0.bytes = 16 := ⟨_, rfl, rfl, rfl, rfl⟩
  have HS : Hid (s.size ≤ 1000000) := hs
  have HT : Hid (levels s = [] ++ lvs s s.size 0 0) := rfl
  clear hs
  go_enter Try.func29, Try.ntmps29
  go_wp2_with fail
  go_loopg [3, 4, 5] s.size (fun g s3 s4 s5 wx => ∃ (f i b : Nat) (xs : List ByteArray), f ≤ i ∧ i ≤ s.size ∧ g = s.size - i ∧ s4 = .int .i64 f ∧ s5 = .int .i64 i ∧ Hid (wx.ownsRow w.heap.size 9 1 s3 xs.length (xs.map Value.string)) ∧ Hid (Below w.heap.size w wx) ∧ Hid (levels s = xs ++ lvs s b f i) ∧ Hid (s.size ≤ i + b) ∧ Hid (xs.length ≤ i))
  case atStart => exact ⟨0, 0, s.size, [], Nat.le_refl _, Nat.zero_le _, rfl, rfl, rfl, World.ownsRow_nil _ _ _ _, Below.refl _ _, HT, by show _ ≤ _; omega, Nat.le_refl _⟩
  case round =>
    obtain ⟨f, i, b, xs, hfi, hisz, rfl, rfl, rfl, HO, HB, HL, HF, HN⟩ := hrel
    by_cases hlt : i < s.size
    · have hlt' : (i : Int) < s.size := by omega
      have HA : Hid (atB s i = (s[i]'hlt).toNat) := atB_in s i hlt
      have hw : IntKind.i64.wrap ((i : Int) + 1) = (i : Int) + 1 := by rw [IntKind.wrap_i64]; have := HS.out; omega
      by_cases h47 : (s[i]'hlt).toNat = 47
      · have h47' : (((s[i]'hlt).toNat : Int) == 47) = true := by simp [h47]
        have HC : Hid (atB s i = 47) := by show _ = _; rw [HA.out]; exact h47
        have hfi' : (f : Int) ≤ i := by omega
        have hisz' : (i : Int) ≤ s.size := by omega
        clear h47
        go_wp2_with (at_builtin; refine wpList_append_own _ rfl (.tmp 16) (.tmp 21) 27 rfl w.heap.size 9 i0 (.string ⟨#[]⟩) 1 16 Try.underlying27 hi hz0 hz1 hz2 rfl (by decide) _ _ _ rfl (HO.out.alloc _) ⟨_, 0, none⟩ 1 1 [.string (s.extract f i)] rfl rfl ?d1 ?d2 ?d3 ?d4 ?d5 ?_)
        case d1 => exact cell_one_new _ _ _
        case d2 => intro u hu; simp at hu; subst hu; rfl
        case d3 => have := HN.out; have := HS.out; unfold maxLen; omega
        case d4 => have := HN.out; have := HS.out; omega
        case d5 => have := HB.out.size; simp; omega
        intro v2 w2 hown2 hgrow2 hnil2
        have hb2 := (HB.out.alloc HB.out.size _).grown hgrow2 (by have := HB.out.size; simp; omega) (by intro q hq; exact (HO.out.lt _ hq).1)
        obtain ⟨b', e1, e2⟩ := lvs_cut s b f i hlt HF.out HC.out
        have HO2 : Hid (w2.ownsRow w.heap.size 9 1 v2 (xs ++ [s.extract f i]).length ((xs ++ [s.extract f i]).map Value.string)) := by show World.ownsRow _ _ _ _ _ _ _; simpa using hown2
        have HB2 : Hid (Below w.heap.size w w2) := hb2
        have HL2 : Hid (levels s = (xs ++ [s.extract f i]) ++ lvs s b' (i + 1) (i + 1)) := by show _ = _; rw [HL.out, e1]; simp
        have HF2 : Hid (s.size ≤ i + 1 + b') := e2
        have HN2 : Hid ((xs ++ [s.extract f i]).length ≤ i + 1) := by show _ ≤ _; have := HN.out; simp; omega
        clear hown2 hgrow2 hnil2 hb2 e1 e2
        go_wp2
        go_roundg (s.size - (i + 1))
        case measure => omega
        case rel => exact ⟨i + 1, i + 1, b', xs ++ [s.extract f i], Nat.le_refl _, by omega, by omega, by first | rfl | simp, by first | rfl | simp, HO2, HB2, HL2, HF2, HN2⟩
      · have h47' : (((s[i]'hlt).toNat : Int) == 47) = false := by simp; omega
        obtain ⟨b', e1, e2⟩ := lvs_on s b f i hlt HF.out (by rw [HA.out]; exact h47)
        have HL2 : Hid (levels s = xs ++ lvs s b' f (i + 1)) := by show _ = _; rw [HL.out, e1]
        have HF2 : Hid (s.size ≤ i + 1 + b') := e2
        have HN2 : Hid (xs.length ≤ i + 1) := Nat.le_succ_of_le HN.out
        clear h47 e1 e2
        go_wp2
        go_roundg (s.size - (i + 1))
        case measure => omega
        case rel => exact ⟨f, i + 1, b', xs, by omega, by omega, by omega, rfl, by first | rfl | simp, HO, HB, HL2, HF2, HN2⟩
    · obtain rfl : i = s.size := by omega
      have hlt' : ¬ (s.size : Int) < s.size := by omega
      have hfi' : (f : Int) ≤ s.size := by omega
      have HE : Hid (levels s = xs ++ [s.extract f s.size]) := by show _ = _; rw [HL.out, lvs_end s b f _ hlt]
      go_wp2_with (at_builtin; refine wpList_append_own _ rfl (.tmp 25) (.tmp 29) 27 rfl w.heap.size 9 i0 (.string ⟨#[]⟩) 1 16 Try.underlying27 hi hz0 hz1 hz2 rfl (by decide) _ _ _ rfl (HO.out.alloc _) ⟨_, 0, none⟩ 1 1 [.string (s.extract f s.size)] rfl rfl (cell_one_new _ _ _) ?x2 ?x3 ?x4 ?x5 ?_)
      any_goals first | rfl | (intro u hu; simp at hu; subst hu; rfl; done) | (have := HN.out; have := HS.out; unfold maxLen; omega; done) | (have := HN.out; have := HS.out; omega; done) | (have := HB.out.size; simp; omega; done)
      intro v2 w2 hown2 hgrow2 hnil2
      have hb2 := (HB.out.alloc HB.out.size _).grown hgrow2 (by have := HB.out.size; simp; omega) (by intro q hq; exact (HO.out.lt _ hq).1)
      have HO2 : Hid (w2.ownsRow w.heap.size 9 1 v2 (levels s).length ((levels s).map Value.string)) := by show World.ownsRow _ _ _ _ _ _ _; rw [HE.out]; simpa using hown2
      have HB2 : Hid (Below w.heap.size w w2) := hb2
      clear hown2 hgrow2 hnil2 hb2
      go_wp2
      go_ret
      exact ⟨v2, rfl, HO2.out, HB2.out⟩
end Go.Proofs.Ytglnldopnoafoaa
