import Derived.Test.YtkjeneklkdekoaaGreatDoorRdn
import Derived.Test.YtkjeneklkdekoaaGreatDoorRek
namespace Go.Proofs.YtkjeneklkdekoaaGreatDoor
open Go Go.RowKit
set_option linter.unusedSimpArgs false
set_option linter.unusedVariables false

/-! ### The program's reader, at any state -/
theorem rTake_dead {l : Nat} {r : Rs} {n : Nat} (h : r.q ≠ 0) : rTake l r n = (false, r) := by unfold rTake; rw [if_pos h]
theorem rTake_short {l : Nat} {r : Rs} {n : Nat} (h : r.q = 0) (hn : l < r.at0 + n) : rTake l r n = (false, r.gaveUp l 10) := by unfold rTake; rw [if_neg (fun q => q h), if_pos hn]
theorem rTake_fine {l : Nat} {r : Rs} {n : Nat} (h : r.q = 0) (hn : ¬ l < r.at0 + n) : rTake l r n = (true, r.on n) := by unfold rTake; rw [if_neg (fun q => q h), if_neg hn]
/-- A reader of the program in memory. -/
structure Wrd (w : World) (rb : Nat) (a : Option Addr) (l c : Nat) (z : Nat → Int) (r : Rs) : Prop where
  rr : RdAt w rb (.slice a l c) r.at0 r.p r.q
  cm : Came w a l c z
  ba : a = none ∨ ∃ g, a = some ⟨g, 0, none⟩ ∧ g ≠ rb
  le : r.at0 ≤ l
  few : l ≤ 300000
theorem came_away {w w' : World} {a : Option Addr} {l c b : Nat} {z : Nat → Int} (h : Came w a l c z) (ba : a = none ∨ ∃ g, a = some ⟨g, 0, none⟩ ∧ g ≠ b) (hg : w.grownBy w' (some b)) : Came w' a l c z := by
  rcases ba with rfl | ⟨g, rfl, hne⟩
  · rcases h.2.2 with ⟨_, q1, q2⟩ | ⟨ad, q, _⟩
    · exact ⟨h.1, h.2.1, .inl ⟨rfl, q1, q2⟩⟩
    · cases q
  · by_cases h0 : l = 0
    · subst h0
      exact came_of h.1 h.2.1 (fun i hi => absurd hi (Nat.not_lt_zero _))
    · have hlt : g < w.heap.size := lt_of_cell (came_cell h (show 0 < l by omega))
      exact came_heap h (hg.block g hlt (fun e => hne (Option.some.inj e)))
theorem Wrd.next {w w' : World} {rb : Nat} {a : Option Addr} {l c : Nat} {z : Nat → Int} {r r' : Rs} (h : Wrd w rb a l c z r) (hg : w.grownBy w' (some rb)) (hr : RdAt w' rb (.slice a l c) r'.at0 r'.p r'.q) (hl : r'.at0 ≤ l) : Wrd w' rb a l c z r' :=
  ⟨hr, came_away h.cm h.ba hg, h.ba, hl, h.few⟩
theorem Wrd.shape {w : World} {rb : Nat} {a : Option Addr} {l c : Nat} {z : Nat → Int} {r : Rs} (h : Wrd w rb a l c z r) : (a = none ∧ l = 0 ∧ c = 0 ∧ r.at0 = 0) ∨ ∃ g, a = some ⟨g, 0, none⟩ ∧ Rw.Rb w rb g l c z := by
  have hle := h.le
  have hfw := h.few
  rcases h.ba with rfl | ⟨g, rfl, hne⟩
  · rcases h.cm.2.2 with ⟨_, q1, q2⟩ | ⟨ad, q, _⟩
    · exact .inl ⟨rfl, q1, q2, by omega⟩
    · cases q
  · exact .inr ⟨g, rfl, ⟨⟨h.cm.2.1, fun i hi => came_cell h.cm hi⟩, h.cm.1, by omega, hne⟩⟩
theorem pByte_any {w : World} {rb : Nat} {a : Option Addr} {l c : Nat} {z : Nat → Int} {r : Rs} (h : Wrd w rb a l c z r) : Calls Tryz.prog 65 #[.pointer (some ⟨rb, 0, none⟩)] w fun e w' => e = .returned (.int .u8 (rByte z l r).1) ∧ Wrd w' rb a l c z (rByte z l r).2 ∧ w.grownBy w' (some rb) := by
  have hle := h.le
  have hfw := h.few
  unfold rByte
  by_cases hq : r.q ≠ 0
  · rw [rTake_dead hq]
    refine (Rw.byte_dead rb _ _ _ _ w h.rr hq).mono ?_
    rintro e w' ⟨rfl, q1, q2⟩
    exact ⟨rfl, h.next q2 q1 h.le, q2⟩
  have q0 : r.q = 0 := by simpa using hq
  have hR := h.rr
  rw [q0] at hR
  rcases h.shape with ⟨rfl, rfl, rfl, ea⟩ | ⟨g, rfl, hB⟩
  · rw [rTake_short q0 (by omega)]
    rw [ea] at hR
    refine (Rw.byte_nil rb _ w hR).mono ?_
    rintro e w' ⟨rfl, q1, q2⟩
    exact ⟨rfl, h.next (r' := r.gaveUp (0 : Nat) 10) q2 (by show RdAt w' rb _ ((r.at0 : Nat) : Int) ((0 : Nat) : Int) 10; rw [ea]; exact q1) h.le, q2⟩
  · by_cases hn : l < r.at0 + 1
    · rw [rTake_short q0 hn]
      refine (Rw.byte_short rb g l c r.at0 r.p w hR h.le hB.le (by omega) hn).mono ?_
      rintro e w' ⟨rfl, q1, q2⟩
      exact ⟨rfl, h.next (r' := r.gaveUp l 10) q2 q1 h.le, q2⟩
    · rw [rTake_fine q0 hn]
      refine (Rw.byte_ok rb g l c r.at0 r.p z w hR hB (by omega)).mono ?_
      rintro e w' ⟨rfl, q1, q2⟩
      exact ⟨rfl, h.next (r' := r.on 1) q2 q1 (by show r.at0 + 1 ≤ l; omega), q2⟩
theorem pNum_any {w : World} {rb : Nat} {a : Option Addr} {l c : Nat} {z : Nat → Int} {r : Rs} (h : Wrd w rb a l c z r) : Calls Tryz.prog 67 #[.pointer (some ⟨rb, 0, none⟩)] w fun e w' => e = .returned (.int .i64 (rNum z l r).1) ∧ Wrd w' rb a l c z (rNum z l r).2 ∧ w.grownBy w' (some rb) := by
  have hle := h.le
  have hfw := h.few
  unfold rNum
  by_cases hq : r.q ≠ 0
  · rw [rTake_dead hq]
    refine (Rw.number_dead rb _ _ _ _ w h.rr hq).mono ?_
    rintro e w' ⟨rfl, q1, q2⟩
    exact ⟨rfl, h.next q2 q1 h.le, q2⟩
  have q0 : r.q = 0 := by simpa using hq
  have hR := h.rr
  rw [q0] at hR
  rcases h.shape with ⟨rfl, rfl, rfl, ea⟩ | ⟨g, rfl, hB⟩
  · rw [rTake_short q0 (by omega)]
    rw [ea] at hR
    refine (Rw.number_nil rb _ w hR).mono ?_
    rintro e w' ⟨rfl, q1, q2⟩
    exact ⟨rfl, h.next (r' := r.gaveUp (0 : Nat) 10) q2 (by show RdAt w' rb _ ((r.at0 : Nat) : Int) ((0 : Nat) : Int) 10; rw [ea]; exact q1) h.le, q2⟩
  · by_cases hn : l < r.at0 + 2
    · rw [rTake_short q0 hn]
      refine (Rw.number_short rb g l c r.at0 r.p w hR h.le hB.le (by omega) hn).mono ?_
      rintro e w' ⟨rfl, q1, q2⟩
      exact ⟨rfl, h.next (r' := r.gaveUp l 10) q2 q1 h.le, q2⟩
    · rw [rTake_fine q0 hn]
      refine (Rw.number_ok rb g l c r.at0 r.p z w hR hB (by omega)).mono ?_
      rintro e w' ⟨rfl, q1, q2⟩
      exact ⟨rfl, h.next (r' := r.on 2) q2 q1 (by show r.at0 + 2 ≤ l; omega), q2⟩
theorem pLong_any {w : World} {rb : Nat} {a : Option Addr} {l c : Nat} {z : Nat → Int} {r : Rs} (h : Wrd w rb a l c z r) : Calls Tryz.prog 69 #[.pointer (some ⟨rb, 0, none⟩)] w fun e w' => e = .returned (.int .i64 (rLong z l r).1) ∧ Wrd w' rb a l c z (rLong z l r).2 ∧ w.grownBy w' (some rb) := by
  have hle := h.le
  have hfw := h.few
  unfold rLong
  by_cases hq : r.q ≠ 0
  · rw [rTake_dead hq]
    refine (Rw.long_dead rb _ _ _ _ w h.rr hq).mono ?_
    rintro e w' ⟨rfl, q1, q2⟩
    exact ⟨rfl, h.next q2 q1 h.le, q2⟩
  have q0 : r.q = 0 := by simpa using hq
  have hR := h.rr
  rw [q0] at hR
  rcases h.shape with ⟨rfl, rfl, rfl, ea⟩ | ⟨g, rfl, hB⟩
  · rw [rTake_short q0 (by omega)]
    rw [ea] at hR
    refine (Rw.long_nil rb _ w hR).mono ?_
    rintro e w' ⟨rfl, q1, q2⟩
    exact ⟨rfl, h.next (r' := r.gaveUp (0 : Nat) 10) q2 (by show RdAt w' rb _ ((r.at0 : Nat) : Int) ((0 : Nat) : Int) 10; rw [ea]; exact q1) h.le, q2⟩
  · by_cases hn : l < r.at0 + 4
    · rw [rTake_short q0 hn]
      refine (Rw.long_short rb g l c r.at0 r.p w hR h.le hB.le (by omega) hn).mono ?_
      rintro e w' ⟨rfl, q1, q2⟩
      exact ⟨rfl, h.next (r' := r.gaveUp l 10) q2 q1 h.le, q2⟩
    · rw [rTake_fine q0 hn]
      refine (Rw.long_ok rb g l c r.at0 r.p z w hR hB (by omega)).mono ?_
      rintro e w' ⟨rfl, q1, q2⟩
      exact ⟨rfl, h.next (r' := r.on 4) q2 q1 (by show r.at0 + 4 ≤ l; omega), q2⟩
theorem pEnd_any {w : World} {rb : Nat} {a : Option Addr} {l c : Nat} {z : Nat → Int} {r : Rs} (h : Wrd w rb a l c z r) : Calls Tryz.prog 79 #[.pointer (some ⟨rb, 0, none⟩)] w fun e w' => e = .returned (.tuple #[]) ∧ Wrd w' rb a l c z (rEnd l r) ∧ w.grownBy w' (some rb) := by
  have hle := h.le
  have hfw := h.few
  unfold rEnd
  by_cases hq : r.q ≠ 0
  · rw [if_pos hq]
    refine (Rw.end_dead rb _ _ _ _ w h.rr hq).mono ?_
    rintro e w' ⟨rfl, q1, q2⟩
    exact ⟨rfl, h.next q2 q1 h.le, q2⟩
  have q0 : r.q = 0 := by simpa using hq
  rw [if_neg hq]
  have hR := h.rr
  rw [q0] at hR
  rcases h.shape with ⟨rfl, rfl, rfl, ea⟩ | ⟨g, rfl, hB⟩
  · rw [if_neg (by omega)]
    rw [ea] at hR
    refine (Rw.end_nil rb _ w hR).mono ?_
    rintro e w' ⟨rfl, q1, q2⟩
    exact ⟨rfl, h.next q2 (by rw [q0, ea]; exact q1) h.le, q2⟩
  · by_cases hn : r.at0 < l
    · rw [if_pos hn]
      refine (end_rest rb g l c r.at0 r.p w hR hn hB.le (by omega)).mono ?_
      rintro e w' ⟨rfl, q1, q2⟩
      exact ⟨rfl, h.next (r' := r.gaveUp r.at0 15) q2 q1 h.le, q2⟩
    · rw [if_neg hn]
      have el : r.at0 = l := by omega
      rw [el] at hR
      refine (Rw.end_ok rb g l c r.p w hR hB.le (by omega)).mono ?_
      rintro e w' ⟨rfl, q1, q2⟩
      exact ⟨rfl, h.next q2 (by rw [q0, el]; exact q1) h.le, q2⟩
theorem pLength_any {w : World} {rb : Nat} {a : Option Addr} {l c : Nat} {z : Nat → Int} {r : Rs} (h : Wrd w rb a l c z r) : Calls Tryz.prog 71 #[.pointer (some ⟨rb, 0, none⟩)] w fun e w' => e = .returned (.int .i64 (rLen z l r).1) ∧ Wrd w' rb a l c z (rLen z l r).2 ∧ w.grownBy w' (some rb) := by
  have hle := h.le
  have hfw := h.few
  unfold rLen
  by_cases hq : r.q ≠ 0
  · rw [if_pos hq]
    refine (Rw.length_dead rb _ _ _ _ w h.rr hq).mono ?_
    rintro e w' ⟨rfl, q1, q2⟩
    exact ⟨rfl, h.next q2 q1 h.le, q2⟩
  have q0 : r.q = 0 := by simpa using hq
  rw [if_neg hq]
  have hR := h.rr
  rw [q0] at hR
  rcases h.shape with ⟨rfl, rfl, rfl, ea⟩ | ⟨g, rfl, hB⟩
  · have el : rLn z 0 r = (0, 0, 10) := by simp [rLn, Rm.lenZ, Rm.lenX]
    rw [el, if_neg (by decide), if_pos (by decide)]
    rw [ea] at hR
    refine (Rw.length_nil rb _ w hR).mono ?_
    rintro e w' ⟨rfl, q1, q2⟩
    exact ⟨rfl, h.next (r' := r.gaveUp (0 : Nat) 10) q2 (by show RdAt w' rb _ ((r.at0 : Nat) : Int) ((0 : Nat) : Int) 10; rw [ea]; exact q1) h.le, q2⟩
  · obtain ⟨f1, f2⟩ := lenZ_facts (l - r.at0) (fun i => z (r.at0 + i)) (fun i => h.cm.2.1 _)
    have hl : lenZ (l - r.at0) (fun i => z (r.at0 + i)) = rLn z l r := rfl
    have hl' : Rm.lenZ (l - r.at0) (fun i => z (r.at0 + i)) = rLn z l r := rfl
    rw [hl'] at f1 f2
    obtain ⟨⟨v, k, q⟩, ev⟩ : ∃ t, rLn z l r = t := ⟨_, rfl⟩
    rw [ev] at hl f1 f2 ⊢
    dsimp only at f1 f2 ⊢
    rcases f2 with rfl | rfl | rfl
    · rw [if_neg (by decide), if_neg (by decide)]
      obtain ⟨k0, k1, _⟩ := f1 rfl
      obtain ⟨K, rfl⟩ : ∃ K : Nat, k = K := ⟨k.toNat, by omega⟩
      refine (Rw.length_fine rb g l c r.at0 r.p z w hR hB h.le v K (by omega) hl).mono ?_
      rintro e w' ⟨rfl, q1, q2⟩
      exact ⟨rfl, h.next (r' := r.on K) q2 q1 (by show r.at0 + K ≤ l; omega), q2⟩
    · rw [if_neg (by decide), if_pos (by decide)]
      refine (Rw.length_short rb g l c r.at0 r.p z w hR hB h.le v k hl).mono ?_
      rintro e w' ⟨rfl, q1, q2⟩
      exact ⟨rfl, h.next (r' := r.gaveUp l 10) q2 q1 h.le, q2⟩
    · rw [if_pos rfl]
      refine (Rw.length_form rb g l c r.at0 r.p z w hR hB h.le v k hl).mono ?_
      rintro e w' ⟨rfl, q1, q2⟩
      exact ⟨rfl, h.next (r' := r.gaveUp ((r.at0 + 3 : Nat) : Int) 12) q2 q1 h.le, q2⟩
/-- The bytes that a reader tells are a list of its own, made since. -/
def Lst (w w' : World) (a : Option Addr) (n k : Nat) (Z : Nat → Int) : Prop := w'.ownsRow 0 5 1 (.slice a n k) n (cellsOf Z n) ∧ (∀ g, a = some ⟨g, 0, none⟩ → w.heap.size ≤ g)
theorem lst_nil (w w' : World) (Z : Nat → Int) : Lst w w' none 0 0 Z := ⟨World.ownsRow_nil _ _ _ _, fun g q => by cases q⟩
theorem lst_cw {w w' : World} {g n k : Nat} {Z : Nat → Int} (h : Rw.CW w' g n k Z) (hg : w.heap.size ≤ g) : Lst w w' (some ⟨g, 0, none⟩) n k Z := ⟨h.2, fun g' q => by cases q; exact hg⟩
theorem pRest_any {w : World} {rb : Nat} {a : Option Addr} {l c : Nat} {z : Nat → Int} {r : Rs} (h : Wrd w rb a l c z r) : Calls Tryz.prog 77 #[.pointer (some ⟨rb, 0, none⟩)] w fun e w' => ∃ a' k, e = .returned (.slice a' (rRst l r).1 k) ∧ Lst w w' a' (rRst l r).1 k (fun i => z (r.at0 + i)) ∧ Wrd w' rb a l c z (rRst l r).2 ∧ w.grownBy w' (some rb) := by
  have hle := h.le
  have hfw := h.few
  unfold rRst
  by_cases hq : r.q ≠ 0
  · rw [rTake_dead hq]
    refine (Rw.rest_dead rb _ _ _ _ w h.rr hq).mono ?_
    rintro e w' ⟨rfl, q1, q2⟩
    exact ⟨none, 0, rfl, lst_nil _ _ _, h.next q2 q1 h.le, q2⟩
  have q0 : r.q = 0 := by simpa using hq
  have hR := h.rr
  rw [q0] at hR
  rw [rTake_fine q0 (by omega)]
  rcases h.shape with ⟨rfl, rfl, rfl, ea⟩ | ⟨g, rfl, hB⟩
  · rw [ea] at hR
    refine (Rw.rest_nil rb _ w hR).mono ?_
    rintro e w' ⟨rfl, q1, q2⟩
    simp only [Nat.zero_sub, if_true]
    exact ⟨none, 0, rfl, lst_nil _ _ _, h.next (r' := r.on 0) q2 (by show RdAt w' rb _ ((r.at0 + 0 : Nat) : Int) r.p 0; rw [ea]; exact q1) h.le, q2⟩
  · refine (Rw.rest_ok rb g l c r.at0 r.p z w hR hB h.le).mono ?_
    rintro e w' ⟨g', c', rfl, ⟨q1, q2⟩, q3, q4⟩
    exact ⟨some ⟨g', 0, none⟩, c', rfl, lst_cw q1 q2, h.next (r' := r.on (l - r.at0)) q4 (by show RdAt w' rb _ ((r.at0 + (l - r.at0) : Nat) : Int) r.p 0; rw [show r.at0 + (l - r.at0) = l by omega]; exact q3) (by show r.at0 + (l - r.at0) ≤ l; omega), q4⟩
theorem rNum_dead {z : Nat → Int} {l : Nat} {r : Rs} (h : r.q ≠ 0) : rNum z l r = (0, r) := by unfold rNum; rw [rTake_dead h]; rfl
theorem rNum_short {z : Nat → Int} {l : Nat} {r : Rs} (h : r.q = 0) (hn : l < r.at0 + 2) : rNum z l r = (0, r.gaveUp l 10) := by unfold rNum; rw [rTake_short h hn]; rfl
theorem rNum_fine {z : Nat → Int} {l : Nat} {r : Rs} (h : r.q = 0) (hn : ¬ l < r.at0 + 2) : rNum z l r = (z r.at0 * 256 + z (r.at0 + 1), r.on 2) := by unfold rNum; rw [rTake_fine h hn]; rfl
theorem rDat_dead {z : Nat → Int} {l : Nat} {r : Rs} (h : r.q ≠ 0) : rDat z l r = ((0, r.at0), r) := by unfold rDat; rw [rNum_dead h]; dsimp only; rw [rTake_dead h]; rfl
theorem rDat_short {z : Nat → Int} {l : Nat} {r : Rs} (h : r.q = 0) (hn : l < r.at0 + 2) : rDat z l r = ((0, r.at0), r.gaveUp l 10) := by unfold rDat; rw [rNum_short h hn]; dsimp only; rw [rTake_dead (show (r.gaveUp l 10).q ≠ 0 by show (10 : Int) ≠ 0; decide)]; rfl
theorem rDat_cut {z : Nat → Int} {l L : Nat} {r : Rs} (h : r.q = 0) (hn : ¬ l < r.at0 + 2) (hL : z r.at0 * 256 + z (r.at0 + 1) = L) (hc : l < r.at0 + 2 + L) : rDat z l r = ((0, r.at0 + 2), r.gaveUp l 10) := by
  unfold rDat; rw [rNum_fine h hn, hL]; dsimp only; rw [Int.toNat_natCast, rTake_short (r := r.on 2) rfl hc]; rfl
theorem rDat_fine {z : Nat → Int} {l L : Nat} {r : Rs} (h : r.q = 0) (hn : ¬ l < r.at0 + 2) (hL : z r.at0 * 256 + z (r.at0 + 1) = L) (hc : ¬ l < r.at0 + 2 + L) : rDat z l r = ((L, r.at0 + 2), (r.on 2).on L) := by
  unfold rDat; rw [rNum_fine h hn, hL]; dsimp only; rw [Int.toNat_natCast, rTake_fine (r := r.on 2) rfl hc]; rfl
theorem num_nat {z : Nat → Int} (hz : ∀ i, 0 ≤ z i ∧ z i ≤ 255) (k : Nat) : ∃ L : Nat, z k * 256 + z (k + 1) = L := ⟨(z k * 256 + z (k + 1)).toNat, by have := hz k; have := hz (k + 1); omega⟩
theorem pData_any {w : World} {rb : Nat} {a : Option Addr} {l c : Nat} {z : Nat → Int} {r : Rs} (h : Wrd w rb a l c z r) : Calls Tryz.prog 75 #[.pointer (some ⟨rb, 0, none⟩)] w fun e w' => ∃ a' k, e = .returned (.slice a' (rDat z l r).1.1 k) ∧ Lst w w' a' (rDat z l r).1.1 k (fun i => z ((rDat z l r).1.2 + i)) ∧ Wrd w' rb a l c z (rDat z l r).2 ∧ w.grownBy w' (some rb) := by
  have hle := h.le
  have hfw := h.few
  by_cases hq : r.q ≠ 0
  · rw [rDat_dead hq]
    refine (Rw.data_dead rb _ _ _ _ w h.rr hq).mono ?_
    rintro e w' ⟨rfl, q1, q2⟩
    exact ⟨none, 0, rfl, lst_nil _ _ _, h.next q2 q1 h.le, q2⟩
  have q0 : r.q = 0 := by simpa using hq
  have hR := h.rr
  rw [q0] at hR
  rcases h.shape with ⟨rfl, rfl, rfl, ea⟩ | ⟨g, rfl, hB⟩
  · rw [ea] at hR
    rw [rDat_short q0 (by omega)]
    refine (Rw.data_nil rb _ w hR).mono ?_
    rintro e w' ⟨rfl, q1, q2⟩
    exact ⟨none, 0, rfl, lst_nil _ _ _, h.next (r' := r.gaveUp (0 : Nat) 10) q2 (by show RdAt w' rb _ ((r.at0 : Nat) : Int) ((0 : Nat) : Int) 10; rw [ea]; exact q1) h.le, q2⟩
  · by_cases hn : l < r.at0 + 2
    · rw [rDat_short q0 hn]
      refine (Rw.data_short rb g l c r.at0 r.p w hR h.le hB.le (by omega) hn).mono ?_
      rintro e w' ⟨rfl, q1, q2⟩
      exact ⟨none, 0, rfl, lst_nil _ _ _, h.next (r' := r.gaveUp l 10) q2 q1 h.le, q2⟩
    · obtain ⟨L, hL⟩ := num_nat h.cm.2.1 r.at0
      by_cases hc : l < r.at0 + 2 + L
      · rw [rDat_cut q0 hn hL hc]
        refine (Rw.data_cut rb g l c r.at0 L r.p z w hR hB hL (by omega) hc).mono ?_
        rintro e w' ⟨rfl, q1, q2⟩
        exact ⟨none, 0, rfl, lst_nil _ _ _, h.next (r' := r.gaveUp l 10) q2 q1 h.le, q2⟩
      · rw [rDat_fine q0 hn hL hc]
        refine (Rw.data_ok rb g l c r.at0 L r.p z w hR hB hL (by omega)).mono ?_
        rintro e w' ⟨g', c', rfl, ⟨q1, q2⟩, q3, q4⟩
        exact ⟨some ⟨g', 0, none⟩, c', rfl, lst_cw q1 q2, h.next (r' := (r.on 2).on L) q4 q3 (by show r.at0 + 2 + L ≤ l; omega), q4⟩
theorem pText_any {w : World} {rb : Nat} {a : Option Addr} {l c : Nat} {z : Nat → Int} {r : Rs} (h : Wrd w rb a l c z r) : Calls Tryz.prog 73 #[.pointer (some ⟨rb, 0, none⟩)] w fun e w' => e = .returned (.string (rTxt z l r).1) ∧ Wrd w' rb a l c z (rTxt z l r).2 ∧ w.grownBy w' (some rb) := by
  have hle := h.le
  have hfw := h.few
  unfold rTxt rTxtS
  by_cases hq : r.q ≠ 0
  · rw [rDat_dead hq]
    dsimp only
    rw [if_pos hq]
    refine (Rw.text_dead rb _ _ _ _ w h.rr hq).mono ?_
    rintro e w' ⟨rfl, q1, q2⟩
    exact ⟨rfl, h.next q2 q1 h.le, q2⟩
  have q0 : r.q = 0 := by simpa using hq
  have hR := h.rr
  rw [q0] at hR
  have h10 : ∀ x : Int, (r.gaveUp x 10).q ≠ 0 := fun x => by show (10 : Int) ≠ 0; decide
  rcases h.shape with ⟨rfl, rfl, rfl, ea⟩ | ⟨g, rfl, hB⟩
  · rw [ea] at hR
    rw [rDat_short q0 (by omega)]
    dsimp only
    rw [if_pos (h10 _)]
    refine (Rw.text_nil rb _ w hR).mono ?_
    rintro e w' ⟨rfl, q1, q2⟩
    exact ⟨rfl, h.next (r' := r.gaveUp (0 : Nat) 10) q2 (by show RdAt w' rb _ ((r.at0 : Nat) : Int) ((0 : Nat) : Int) 10; rw [ea]; exact q1) h.le, q2⟩
  · by_cases hn : l < r.at0 + 2
    · rw [rDat_short q0 hn]
      dsimp only
      rw [if_pos (h10 _)]
      refine (Rw.text_short rb g l c r.at0 r.p w hR h.le hB.le (by omega) hn).mono ?_
      rintro e w' ⟨rfl, q1, q2⟩
      exact ⟨rfl, h.next (r' := r.gaveUp l 10) q2 q1 h.le, q2⟩
    · obtain ⟨L, hL⟩ := num_nat h.cm.2.1 r.at0
      by_cases hc : l < r.at0 + 2 + L
      · rw [rDat_cut q0 hn hL hc]
        dsimp only
        rw [if_pos (h10 _)]
        refine (Rw.text_cut rb g l c r.at0 L r.p z w hR hB hL (by omega) hc).mono ?_
        rintro e w' ⟨rfl, q1, q2⟩
        exact ⟨rfl, h.next (r' := r.gaveUp l 10) q2 q1 h.le, q2⟩
      · rw [rDat_fine q0 hn hL hc]
        dsimp only
        rw [if_neg (show ¬ ((r.on 2).on L).q ≠ 0 from fun q => q rfl)]
        by_cases hk : (chk (strZ (fun i => z (r.at0 + 2 + i)) L)).2 ≠ 0
        · rw [if_pos hk]
          refine (Rw.text_odd rb g l c r.at0 L r.p z w hR hB hL (by omega) _ _ rfl hk).mono ?_
          rintro e w' ⟨rfl, q1, q2⟩
          exact ⟨rfl, h.next (r' := ⟨r.at0, _, _⟩) q2 q1 h.le, q2⟩
        · rw [if_neg hk]
          refine (text_ok rb g l c r.at0 L r.p z w hR hB.own hB.le (by omega) hB.ne hL (by omega) (by simpa using hk)).mono ?_
          rintro e w' ⟨rfl, q1, q2⟩
          exact ⟨rfl, h.next (r' := (r.on 2).on L) q2 q1 (by show r.at0 + 2 + L ≤ l; omega), q2⟩
end Go.Proofs.YtkjeneklkdekoaaGreatDoor
