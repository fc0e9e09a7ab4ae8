import Derived.Test.YtmihpmmkkklpfaaGreatDoorProg
import Derived.Test.YtmihpmmkkklpfaaGreatDoorTPt
import Derived.WalkKit
import Derived.WalkSpells
import Derived.WalkLawsBesides
import Derived.Lib.Strings
namespace Go.Proofs.YtmihpmmkkklpfaaGreatDoor.Tp
open Go.RowKit
set_option linter.unusedSimpArgs false
set_option linter.unusedVariables false

/-- What Check tells from a place on, in so many steps at most. -/
def chkF (s : ByteArray) : Nat → Nat → Nat × Nat
  | 0, _ => (0, 0)
  | b + 1, k => if k < s.size then (if atB s k = 0 then (k, 14) else if point s k = 0 then (k, 13) else chkF s b (k + point s k)) else (0, 0)
/-- What Check tells. -/
def chk (s : ByteArray) : Nat × Nat := if 65535 < s.size then (65535, 11) else chkF s s.size 0

theorem chkF_end (s : ByteArray) (b k : Nat) (h : ¬ k < s.size) : chkF s b k = (0, 0) := by
  cases b with
  | zero => rfl
  | succ b => simp [chkF, h]
theorem chkF_zero (s : ByteArray) (b k : Nat) (h : k < s.size) (hb : s.size ≤ k + b) (hz : atB s k = 0) : chkF s b k = (k, 14) := by
  cases b with
  | zero => omega
  | succ b => simp [chkF, h, hz]
theorem chkF_utf (s : ByteArray) (b k : Nat) (h : k < s.size) (hb : s.size ≤ k + b) (hz : ¬ atB s k = 0) (hp : point s k = 0) : chkF s b k = (k, 13) := by
  cases b with
  | zero => omega
  | succ b => simp [chkF, h, hz, hp]
theorem chkF_step (s : ByteArray) (b k : Nat) (h : k < s.size) (hb : s.size ≤ k + b) (hz : ¬ atB s k = 0) (hp : ¬ point s k = 0) : ∃ b', chkF s b k = chkF s b' (k + point s k) ∧ s.size ≤ k + point s k + b' := by
  cases b with
  | zero => omega
  | succ b => exact ⟨b, by simp [chkF, h, hz, hp], by omega⟩

/-- Does a text begin with another? -/
def begins (s p : ByteArray) : Bool := decide (p.size ≤ s.size) && ((s.extract 0 p.size).toList == p.toList)

set_option maxHeartbeats 400000 in
theorem pre_any (s p : ByteArray) (w : World) :
    Calls Tryz.prog 150 #[.string s, .string p] w fun e w' => e = .returned (.bool (begins s p)) ∧ w' = w := by
  by_cases h : p.size ≤ s.size
  · have e : begins s p = ((s.extract 0 p.size).toList == p.toList) := by simp [begins, h]
    rw [e]
    clear e
    have h' : (p.size : Int) ≤ s.size := by omega
    go_enter Tryz.func150, Tryz.ntmps150
    go_wp2
    go_ret
    exact ⟨rfl, rfl⟩
  · have e : begins s p = false := by simp [begins, h]
    rw [e]
    clear e
    have h' : ¬ (p.size : Int) ≤ s.size := by omega
    go_enter Tryz.func150, Tryz.ntmps150
    go_wp2
    go_ret
    exact ⟨rfl, rfl⟩

theorem atB_list (s : ByteArray) (i : Nat) : atB s i = (s.data.toList[i]?.getD 0).toNat := by
  by_cases h : i < s.size
  · rw [atB_in s i h]
    have h' : i < s.data.toList.length := by simpa using h
    rw [List.getElem?_eq_getElem h']
    rfl
  · rw [atB_out s i h]
    have h' : s.data.toList.length ≤ i := by simpa using h
    rw [List.getElem?_eq_none h']
    rfl

theorem three (l : List UInt8) : List.isPrefixOf [239, 191, 189] l = decide ((l[0]?.getD 0).toNat = 239 ∧ (l[1]?.getD 0).toNat = 191 ∧ (l[2]?.getD 0).toNat = 189) := by
  have hq : ∀ (a b : UInt8), (a == b) = decide (b.toNat = a.toNat) := by
    intro a b
    rw [Bool.eq_iff_iff]
    simp only [beq_iff_eq, decide_eq_true_eq, UInt8.toNat_inj]
    exact eq_comm
  match l with
  | [] => rfl
  | [a] => simp [List.isPrefixOf]
  | [a, b] => simp [List.isPrefixOf]
  | a :: b :: c :: r =>
    simp only [List.isPrefixOf, hq, Bool.and_true]
    rw [Bool.eq_iff_iff]
    simp

theorem begins_three (s : ByteArray) (k : Nat) : begins (s.extract k s.size) ⟨#[239, 191, 189]⟩ = decide (atB s k = 239 ∧ atB s (k + 1) = 191 ∧ atB s (k + 2) = 189) := by
  unfold begins
  rw [Lib.hasPrefix_raw, Lib.extract_data, List.take_of_length_le (by simp)]
  unfold Lib.hasPrefix
  have e : (ByteArray.mk #[239, 191, 189]).data.toList = [239, 191, 189] := rfl
  rw [e, three]
  simp only [atB_list, List.getElem?_drop, Nat.add_zero]

set_option maxRecDepth 1000000 in
set_option maxHeartbeats 400000 in
theorem chk_world (s : ByteArray) (w : World) :
    Calls Tryz.prog 132 #[.string s] w fun e w' => e = .returned (.tuple #[.int .i64 (chk s).1, .int .i64 (chk s).2]) ∧ (w' = w ∨ ∃ k, w' = w.iter s k) := by
  by_cases hl : 65535 < s.size
  · have e : chk s = (65535, 11) := by simp [chk, hl]
    rw [e]
    clear e
    have hl' : (65535 : Int) < s.size := by omega
    go_enter Tryz.func132, Tryz.ntmps132
    go_wp2
    go_ret2
    exact ⟨rfl, .inl rfl⟩
  · have HE : Hid (chk s = chkF s s.size 0) := by simp [chk, hl, Hid]
    have hl' : ¬ (65535 : Int) < s.size := by omega
    have hs : s.size ≤ 65535 := by omega
    go_enter Tryz.func132, Tryz.ntmps132
    go_wp2
    go_loopw [4, 5] (fun i c w' => ∃ k b : Nat, w' = w.iter s k ∧ chk s = chkF s b k ∧ s.size ≤ k + b) (fun _ _ w' => s.size - w'.iterPos w.heap.size)
    case atStart => exact ⟨0, s.size, rfl, HE.out, by omega⟩
    case round =>
      obtain ⟨k, b, rfl, hc, hb⟩ := hrel
      have HC : Hid (chk s = chkF s b k) := hc
      clear hc
      by_cases hlt : k < s.size
      · obtain ⟨r, n, hd⟩ : ∃ r n, Utf8.decode s k = (r, n) := ⟨_, _, rfl⟩
        have hnx : ∀ ty, (Instr.next (.pointer (some ⟨w.heap.size, 0, none⟩)) true ty).run Tryz.prog (w.iter s k) = .ok (.tuple #[.bool true, .int .i64 k, .int .i32 r]) (w.iter s (k + n)) := by
          intro ty
          rw [run_next_any w s k ty hlt, hd]
        have hf := point_fits s k
        rw [hd] at hf
        clear hd
        have hg := begins_three s k
        have HF : Hid (Fits (point s k) (atB s k) (atB s (k + 1)) (atB s (k + 2)) (r, n)) := hf
        have HG : Hid (begins (s.extract k s.size) ⟨#[239, 191, 189]⟩ = decide (atB s k = 239 ∧ atB s (k + 1) = 191 ∧ atB s (k + 2) = 189)) := hg
        clear hf hg
        by_cases hz : atB s k = 0
        · have hp : point s k = 1 := by simp [point, pt, hz]
          have hr : r = 0 := ((HF.out.2 (by omega)).2.1).2 hz
          subst hr
          have HR : Hid (chk s = (k, 14)) := by have h1 := HC.out; rw [chkF_zero s b k hlt hb hz] at h1; exact h1
          clear hz hp
          go_wp2
          go_ret2
          exact ⟨by rw [HR.out]; rfl, .inr ⟨_, rfl⟩⟩
        · by_cases hp : point s k = 0
          · obtain ⟨h1, h2, _, h4⟩ := HF.out.1 hp
            have hr : r = 65533 := h1
            subst hr
            have hg : begins (s.extract k s.size) ⟨#[239, 191, 189]⟩ = false := by rw [HG.out]; exact decide_eq_false h4
            have HR : Hid (chk s = (k, 13)) := by have h1 := HC.out; rw [chkF_utf s b k hlt hb hz hp] at h1; exact h1
            clear hz hp h1 h2 h4
            go_wp2_with (go_at_call 150; refine (pre_any _ _ _).mono ?_; rintro e w' ⟨rfl, rfl⟩)
            go_ret2
            exact ⟨by rw [HR.out]; rfl, .inr ⟨_, rfl⟩⟩
          · obtain ⟨h1, h2, h3⟩ := HF.out.2 hp
            have hn : n = point s k := h1
            have hr0 : ¬ r = 0 := fun h => hz (h2.1 h)
            obtain ⟨b', e1, e2⟩ := chkF_step s b k hlt hb hz hp
            have HS : Hid (chk s = chkF s b' (k + n) ∧ s.size ≤ k + n + b' ∧ 1 ≤ n) := by rw [hn]; exact ⟨HC.out.trans e1, e2, by omega⟩
            by_cases hr : r = 65533
            · have hg : begins (s.extract k s.size) ⟨#[239, 191, 189]⟩ = true := by rw [HG.out]; exact decide_eq_true (h3 hr)
              clear h1 h2 h3 hn hr0 e1 e2 hz hp
              subst hr
              go_wp2_with (go_at_call 150; refine (pre_any _ _ _).mono ?_; rintro e w' ⟨rfl, rfl⟩)
              go_roundw
              case rel => exact ⟨k + n, b', rfl, HS.out.1, HS.out.2.1⟩
              case measure => have := HS.out.2.2; simp; omega
            · have q0 : ((r : Int) == 0) = false := by simp; omega
              have q1 : ((r : Int) == 65533) = false := by simp; omega
              clear h1 h2 h3 hn hr0 e1 e2 hz hp hr
              go_wp2_with (go_at_call 150; refine (pre_any _ _ _).mono ?_; rintro e w' ⟨rfl, rfl⟩)
              go_roundw
              case rel => exact ⟨k + n, b', rfl, HS.out.1, HS.out.2.1⟩
              case measure => have := HS.out.2.2; simp; omega
      · have hnx : ∀ ty, (Instr.next (.pointer (some ⟨w.heap.size, 0, none⟩)) true ty).run Tryz.prog (w.iter s k) = _ := fun ty => run_next_end w s k ty hlt
        have HR : Hid (chk s = (0, 0)) := by have h1 := HC.out; rw [chkF_end s b k hlt] at h1; exact h1
        go_wp2
        go_ret2
        exact ⟨by rw [HR.out]; rfl, .inr ⟨_, rfl⟩⟩

theorem below_iter (w : World) (s : ByteArray) (k : Nat) : Below w.heap.size w (w.iter s k) := (Below.refl _ _).alloc (Nat.le_refl _) _
theorem frozen_iter (w : World) (s : ByteArray) (k : Nat) (a : Addr) : (w.iter s k).frozen? a = w.frozen? a := by
  by_cases h : a.block = w.heap.size
  · have e1 : (w.iter s k).heap[a.block]? = some (.stringIter s k) := by rw [h]; exact World.iter_heap w s k
    have e2 : w.heap[a.block]? = none := by rw [h]; simp
    simp [World.frozen?, e1, e2]
  · by_cases h' : a.block < w.heap.size
    · exact (below_iter w s k).frozen h'
    · have e1 : (w.iter s k).heap[a.block]? = none := by
        show (w.heap.push _)[a.block]? = none
        rw [Array.getElem?_eq_none]
        simp; omega
      have e2 : w.heap[a.block]? = none := by rw [Array.getElem?_eq_none]; omega
      simp [World.frozen?, e1, e2]
theorem grown_iter (w : World) (s : ByteArray) (k : Nat) : Grown w (w.iter s k) :=
  ⟨World.keptBut_alloc _ _ _, frozen_iter w s k, (below_iter w s k).size⟩

theorem chk_any (s : ByteArray) (w : World) :
    Calls Tryz.prog 132 #[.string s] w fun e w' => e = .returned (.tuple #[.int .i64 (chk s).1, .int .i64 (chk s).2]) ∧ Below w.heap.size w w' ∧ Grown w w' := by
  refine (chk_world s w).mono ?_
  rintro e w' ⟨rfl, rfl | ⟨k, rfl⟩⟩
  · exact ⟨rfl, Below.refl _ _, Grown.refl _⟩
  · exact ⟨rfl, below_iter _ _ _, grown_iter _ _ _⟩
end Go.Proofs.YtmihpmmkkklpfaaGreatDoor.Tp
namespace Go.Proofs.YtmihpmmkkklpfaaGreatDoor.Tp
open Go Go.RowKit
set_option linter.unusedSimpArgs false
set_option linter.unusedVariables false
def txt (s : ByteArray) : Bool := ((chk s).2 : Int) == 0
theorem isEmpty_size (s : ByteArray) : (!s.toList.isEmpty) = (s.size != 0) := by
  rw [Lib.toList_data]
  obtain ⟨⟨l⟩⟩ := s
  cases l <;> simp [ByteArray.size]
def ct (s : ByteArray) : Int := if s.size = 0 then 50 else if txt s then 0 else 51
theorem checkText_any (s : ByteArray) (w : World) : Calls Tryz.prog 103 #[.string s] w fun e w' => e = .returned (.int .i64 (ct s)) ∧ Below w.heap.size w w' := by
  by_cases h0 : s.size = 0
  · have he : s.toList.isEmpty = true := by
      have h := isEmpty_size s
      cases hx : s.toList.isEmpty with
      | true => rfl
      | false =>
        rw [hx, h0] at h
        cases h
    rw [show ct s = 50 by simp [ct, h0]]
    go_enter Tryz.func103, Tryz.ntmps103
    go_wp2
    go_ret
    exact ⟨rfl, Below.refl _ _⟩
  · have he : s.toList.isEmpty = false := by
      have h := isEmpty_size s
      cases hx : s.toList.isEmpty with
      | false => rfl
      | true =>
        rw [hx] at h
        have hz : (s.size != 0) = true := by simp [h0]
        rw [hz] at h
        cases h
    cases ht : txt s with
    | true =>
      have hc : ((chk s).2 : Int) = 0 := by have := ht; unfold txt at this; simpa using this
      rw [show ct s = 0 by simp [ct, h0, ht]]
      clear ht h0
      go_enter Tryz.func103, Tryz.ntmps103
      go_wp2_with (go_at_call 132; refine (chk_any s _).mono ?_; rintro e w1 ⟨rfl, hb, _⟩; have B1 : Hid (Below w.heap.size w w1) := hb; clear hb; rw [hc])
      go_ret
      exact ⟨rfl, B1.out⟩
    | false =>
      have hc : (((chk s).2 : Int) != 0) = true := by have := ht; unfold txt at this; simpa using this
      rw [show ct s = 51 by simp [ct, h0, ht]]
      clear ht h0
      go_enter Tryz.func103, Tryz.ntmps103
      go_wp2_with (go_at_call 132; refine (chk_any s _).mono ?_; rintro e w1 ⟨rfl, hb, _⟩; have B1 : Hid (Below w.heap.size w w1) := hb; clear hb)
      go_ret
      exact ⟨rfl, B1.out⟩
theorem txt_size {s : ByteArray} (h : txt s = true) : s.size ≤ 65535 := by
  unfold txt chk at h
  by_cases h1 : 65535 < s.size
  · simp [h1] at h
  · omega

end Go.Proofs.YtmihpmmkkklpfaaGreatDoor.Tp
