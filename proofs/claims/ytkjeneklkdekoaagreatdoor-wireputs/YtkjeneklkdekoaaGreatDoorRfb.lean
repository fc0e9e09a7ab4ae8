import Derived.Test.YtkjeneklkdekoaaGreatDoorMWfour
import Derived.Test.YtkjeneklkdekoaaGreatDoorGthree
import Derived.Test.YtkjeneklkdekoaaGreatDoorRfa
import Derived.Test.YtkjeneklkdekoaaGreatDoorBsix
import Derived.Test.YtkjeneklkdekoaaGreatDoorBkj
namespace Go.Proofs.YtkjeneklkdekoaaGreatDoor
open Go Go.RowKit
set_option linter.unusedSimpArgs false
set_option linter.unusedVariables false

/-! ### crierref1.Words -/
theorem chkF_rm (s : ByteArray) (b k : Nat) : Rm.chkF s b k = chkF s b k := by
  induction b generalizing k with
  | zero => rfl
  | succ n ih => simp only [Rm.chkF, chkF, ih]
theorem chk_rm (s : ByteArray) : Rm.chk s = chk s := by simp only [Rm.chk, chk, chkF_rm]
theorem words_bad (s : ByteArray) (w : World) (hc : (chk s).2 ≠ 0) :
    Calls Tryz.prog 25 #[.string s] w fun e w' => e = .returned (.tuple #[.slice none 0 0, .int .i64 (chk s).2]) ∧ w' = w := by
  obtain ⟨c, q, hcq⟩ : ∃ c q, chk s = (c, q) := ⟨_, _, rfl⟩
  have K0 : Hid (Calls Tryz.prog 85 #[.string s] w fun e w' => e = .returned (.tuple #[.int .i64 c, .int .i64 q]) ∧ w' = w) := by
    have h := Rm.ref_any s w
    rw [chk_rm, hcq] at h
    exact h
  rw [hcq] at hc ⊢
  have h1 : ¬ ((q : Nat) : Int) = 0 := by simpa using hc
  have h2 : (((q : Nat) : Int) != 0) = true := by simpa using hc
  clear hcq hc
  go_enter Tryz.func25, Tryz.ntmps25
  go_wp2_with (first | (go_at_call 85; refine K0.out.mono ?_; rintro e w' ⟨rfl, he⟩; obtain rfl := he.symm))
  go_ret2
  exact ⟨rfl, rfl⟩
theorem words_ok (s : ByteArray) (w : World) (hc : (chk s).2 = 0) (hs : s.size ≤ 65535) :
    Calls Tryz.prog 25 #[.string s] w fun e w' => ∃ g cp, e = .returned (.tuple #[.slice (some ⟨g, 0, none⟩) (2 + s.size) cp, .int .i64 0]) ∧ w'.ownsRow w.heap.size 5 1 (.slice (some ⟨g, 0, none⟩) (2 + s.size) cp) (2 + s.size) (cellsOf (numZ s.size) 2 ++ Lib.strCells s) ∧ Below w.heap.size w w' := by
  obtain ⟨i0, hi, hz0, hz1, hz2⟩ := info_parts Tryz.info5
  obtain ⟨c, q, hcq⟩ : ∃ c q, chk s = (c, q) := ⟨_, _, rfl⟩
  have K0 : Hid (Calls Tryz.prog 85 #[.string s] w fun e w' => e = .returned (.tuple #[.int .i64 c, .int .i64 0]) ∧ w' = w) := by
    have h := Rm.ref_any s w
    rw [chk_rm, hcq] at h
    rw [hcq] at hc
    have hq : q = 0 := hc
    subst hq
    exact h
  have P0 : Hid (Calls Tryz.prog 22 #[.int .i64 s.size] w fun e w' => Made w w' e 2 (cellsOf (numZ s.size) 2)) := rnumber_made s.size w
  clear hc hcq
  go_enter Tryz.func25, Tryz.ntmps25
  go_wp2_with (first | (go_at_call 85; refine K0.out.mono ?_; rintro e w' ⟨rfl, he⟩; obtain rfl := he.symm))
  go_must (go_at_call 22)
  refine P0.out.mono ?_
  rintro e w2 ⟨g, cp, rfl, ho, hb2⟩
  have HO : Hid (w2.ownsRow w.heap.size 5 1 (.slice (some ⟨g, 0, none⟩) 2 cp) 2 (cellsOf (numZ s.size) 2)) := ho
  have HB : Hid (Below w.heap.size w w2) := hb2
  clear ho hb2
  go_wp2_with (at_builtin; refine Lib.wpList_append_own_string _ rfl (.tmp 16) (.tmp 17) 22 9 rfl w.heap.size 5 i0 Tryz.underlying22 Tryz.underlying9 hi hz0 hz1 hz2 _ _ _ rfl HO.out s rfl ?d1 ?d2 ?d3 ?_)
  case d1 => unfold maxLen; omega
  case d2 => omega
  case d3 => exact HB.out.size
  intro v3 w3 hown3 hgrow3 hnil3
  have hb3 := HB.out.grown hgrow3 HB.out.size (fun q hq => (HO.out.lt q hq).1)
  have hex : ∃ g cp, v3 = .slice (some ⟨g, 0, none⟩) (2 + s.size) cp := by
    obtain ⟨_, h | ⟨g, cp, cur, hv, _⟩⟩ := hown3
    · exact absurd h.1 (by simpa using hnil3)
    · exact ⟨g, cp, hv⟩
  obtain ⟨g3, cp3, rfl⟩ := hex
  have HS : Hid (w3.ownsRow w.heap.size 5 1 (.slice (some ⟨g3, 0, none⟩) (2 + s.size) cp3) (2 + s.size) (cellsOf (numZ s.size) 2 ++ Lib.strCells s) ∧ Below w.heap.size w w3) := ⟨hown3, hb3⟩
  clear hown3 hgrow3 hnil3 hb3
  go_wp2
  go_ret2
  exact ⟨g3, cp3, rfl, HS.out.1, HS.out.2⟩
end Go.Proofs.YtkjeneklkdekoaaGreatDoor
namespace Go.Proofs.YtkjeneklkdekoaaGreatDoor
open Go Go.RowKit
set_option linter.unusedSimpArgs false
set_option linter.unusedVariables false

/-! ### PutText, PutData behind bytes that were lent -/
set_option maxRecDepth 100000 in
set_option maxHeartbeats 1000000 in
theorem putText_bad' (a0 : Option Addr) (l0 k0 : Nat) (s : ByteArray) (c q : Nat) (hcq : chk s = (c, q)) (hq : q ≠ 0) (w : World) :
    Calls Tryz.prog 20 #[.slice a0 l0 k0, .string s] w fun e w' => e = .returned (.tuple #[.slice none 0 0, .int .i64 q]) ∧ Below w.heap.size w w' := by
  have K0 : Hid (Calls Tryz.prog 83 #[.string s] w fun e w' => e = .returned (.tuple #[.int .i64 c, .int .i64 q]) ∧ Below w.heap.size w w') := by
    refine (chk_any s w).mono ?_
    rw [hcq]
    rintro e w' ⟨rfl, hb, _⟩
    exact ⟨rfl, hb⟩
  have j1 : ((q : Int) != 0) = true := by simp; omega
  clear hcq hq
  go_enter Tryz.func20, Tryz.ntmps20
  go_wp2_with (go_at_call 83; refine K0.out.mono ?_; rintro e w1 ⟨rfl, hb1⟩)
  go_ret2
  exact ⟨rfl, hb1⟩
set_option maxRecDepth 100000 in
set_option maxHeartbeats 1000000 in
theorem putData_long' (a0 : Option Addr) (l0 k0 : Nat) (a : Option Addr) (l k : Nat) (hl : 65535 < l) (w : World) :
    Calls Tryz.prog 21 #[.slice a0 l0 k0, .slice a l k] w fun e w' => e = .returned (.tuple #[.slice none 0 0, .int .i64 11]) ∧ w' = w := by
  have h1 : (65535 : Int) < l := by omega
  go_enter Tryz.func21, Tryz.ntmps21
  go_wp2
  go_ret2
  exact ⟨rfl, rfl⟩
set_option maxRecDepth 100000 in
set_option maxHeartbeats 1000000 in
theorem putData_ok' (a0 : Option Addr) (l0 k0 : Nat) (z0 : Nat → Int) (a : Option Addr) (l k : Nat) (z : Nat → Int) (w : World) (h0 : Came w a0 l0 k0 z0) (hl0 : l0 ≤ 300000) (h : Came w a l k z) (hl : l ≤ 65535) :
    Calls Tryz.prog 21 #[.slice a0 l0 k0, .slice a l k] w fun e w' => ∃ g cp, e = .returned (.tuple #[.slice (some ⟨g, 0, none⟩) (l0 + 2 + l) cp, .int .i64 0]) ∧ w'.ownsRow w.heap.size 5 1 (.slice (some ⟨g, 0, none⟩) (l0 + 2 + l) cp) (l0 + 2 + l) (cellsOf z0 l0 ++ cellsOf (numZ l) 2 ++ cellsOf z l) ∧ Below w.heap.size w w' := by
  obtain ⟨i0, hi, hz0, hz1, hz2⟩ := info_parts Tryz.info5
  have P0 : Hid (Calls Tryz.prog 17 #[.slice a0 l0 k0, .int .i64 l] w fun e w' => ∃ g cp, e = .returned (.slice (some ⟨g, 0, none⟩) (l0 + 2) cp) ∧ w'.ownsRow w.heap.size 5 1 (.slice (some ⟨g, 0, none⟩) (l0 + 2) cp) (l0 + 2) (cellsOf z0 l0 ++ cellsOf (numZ l) 2) ∧ Below w.heap.size w w') := by
    refine (putNumber_any a0 l0 k0 z0 l w h0 (by omega)).mono ?_
    rintro e w' ⟨g, cp, rfl, ho, hb⟩
    exact ⟨g, cp, rfl, ho, hb⟩
  have h1 : ¬ (65535 : Int) < l := by omega
  have HC : Hid (∀ w', Below w.heap.size w w' → Came w' a l k z) := fun w' hb => came_below (B := 0) h hb
  have HN : Hid (a = none → l = 0 ∧ k = 0) := by rintro rfl; exact came_nil h
  clear h h0
  cases a with
  | none =>
    obtain ⟨rfl, rfl⟩ := HN.out rfl
    go_enter Tryz.func21, Tryz.ntmps21
    go_wp2_with (first | (go_at_call 17; refine P0.out.mono ?_; rintro e w1 ⟨g, cp, rfl, ho, hb⟩; have HO : Hid (w1.ownsRow w.heap.size 5 1 (.slice (some ⟨g, 0, none⟩) (l0 + 2) cp) (l0 + 2) (cellsOf z0 l0 ++ cellsOf (numZ (0 : Nat)) 2)) := ho; have HB : Hid (Below w.heap.size w w1) := hb; clear ho hb) | (at_builtin; refine wpList_append_own_none rfl (.tmp 12) (.tmp 13) 22 rfl w.heap.size 5 i0 1 Tryz.underlying22 hi _ (l0 + 2) (cellsOf z0 l0 ++ cellsOf (numZ (0 : Nat)) 2) rfl HO.out rfl ?_))
    go_ret2
    refine ⟨g, cp, rfl, ?_, HB.out⟩
    have := HO.out
    simpa [cellsOf] using this
  | some ad =>
    go_enter Tryz.func21, Tryz.ntmps21
    go_wp2_with (first | (go_at_call 17; refine P0.out.mono ?_; rintro e w1 ⟨g, cp, rfl, ho, hb⟩; have HO : Hid (w1.ownsRow w.heap.size 5 1 (.slice (some ⟨g, 0, none⟩) (l0 + 2) cp) (l0 + 2) (cellsOf z0 l0 ++ cellsOf (numZ l) 2)) := ho; have HB : Hid (Below w.heap.size w w1) := hb; clear ho hb) | (at_builtin; refine wpList_append_own _ rfl (.tmp 12) (.tmp 13) 22 rfl w.heap.size 5 i0 (.int .u8 0) 1 1 Tryz.underlying22 hi hz0 hz1 hz2 rfl (by decide) _ _ _ rfl HO.out ad l k (cellsOf z l) rfl ?e0 ?e1 ?e2 ?e3 ?e4 ?e5 ?_))
    case e0 => simp [cellsOf]
    case e1 => exact came_cells (HC.out _ HB.out)
    case e2 => exact fun u hu => cellsOf_one z l u hu
    case e3 => unfold maxLen; omega
    case e4 => omega
    case e5 => exact HB.out.size
    intro v3 w3 hown3 hgrow3 hnil3
    have hb3 := HB.out.grown hgrow3 HB.out.size (fun q hq => (HO.out.lt q hq).1)
    have hex : ∃ g cp, v3 = .slice (some ⟨g, 0, none⟩) (l0 + 2 + l) cp := by
      obtain ⟨_, h | ⟨g, cp, cur, hv, _⟩⟩ := hown3
      · exact absurd h.1 (by simpa using hnil3)
      · exact ⟨g, cp, hv⟩
    obtain ⟨g3, cp3, rfl⟩ := hex
    have HS : Hid (w3.ownsRow w.heap.size 5 1 (.slice (some ⟨g3, 0, none⟩) (l0 + 2 + l) cp3) (l0 + 2 + l) (cellsOf z0 l0 ++ cellsOf (numZ l) 2 ++ cellsOf z l) ∧ Below w.heap.size w w3) := ⟨by rw [List.append_assoc]; exact hown3, hb3⟩
    clear hown3 hgrow3 hnil3 hb3
    go_wp2
    go_ret2
    exact ⟨g3, cp3, rfl, HS.out.1, HS.out.2⟩
end Go.Proofs.YtkjeneklkdekoaaGreatDoor
namespace Go.Proofs.YtkjeneklkdekoaaGreatDoor
open Go Go.RowKit
set_option linter.unusedSimpArgs false
set_option linter.unusedVariables false

set_option maxRecDepth 100000 in
set_option maxHeartbeats 1000000 in
theorem rgroups_low (n : Int) (hn : n < 0) (m : Int) (hm : m = 0) (w : World) :
    Calls Tryz.prog 24 #[.int .i64 n] w fun e w' => Made w w' e (kn m) (cellsOf (glZ m) (kn m)) := by
  obtain ⟨i0, hi, hz0, hz1, hz2⟩ := info_parts Tryz.info5
  have hkb := kn_bd m
  have hm0 : 0 ≤ m := by omega
  have hm1 : m ≤ 268435455 := by omega
  have HM : Hid (m = 0) := hm
  have n1 : ¬ 0 ≤ n := by omega
  clear hm
  go_enter Tryz.func24, Tryz.ntmps24
  go_wp2
  go_loopw [0, 3] (fun n v wr => ∃ j : Nat, j < kn m ∧ n = .int .i64 (qn m j) ∧ wr.ownsRow w.heap.size 5 1 v j (cellsOf (glZ m) j) ∧ Below w.heap.size w wr) (fun n _ _ => (intOf n).toNat)
  case atStart => exact ⟨0, by omega, by rw [show qn m 0 = m from rfl, HM.out], World.ownsRow_nil _ _ _ _, Below.refl _ _⟩
  case round =>
    obtain ⟨j, hj, rfl, ho, hbel⟩ := hrel
    have hq := qn_more m hm0 hm1 j hj
    have HO : Hid (wr.ownsRow w.heap.size 5 1 u3 j (cellsOf (glZ m) j)) := ho
    have HB : Hid (Below w.heap.size w wr) := hbel
    have HG : Hid (glZ m j = if j + 1 < kn m then qn m j % 128 + 128 else qn m j) := by
      show glZ m j = _
      unfold glZ
      split
      · rfl
      · rw [if_pos (by omega)]
    have HQ : Hid (qn m (j + 1) = qn m j / 128) := rfl
    obtain ⟨x, hx⟩ : ∃ x, qn m j = x := ⟨_, rfl⟩
    rw [hx] at hq ⊢
    have HX : Hid (qn m j = x) := hx
    clear ho hbel hx
    obtain ⟨hq0, hq1, hq2⟩ := hq
    by_cases hlt : 127 < x
    · have hj1 : j + 1 < kn m := hq2.1 hlt
      have hw : (x % 128 + 128) % 256 = x % 128 + 128 := by omega
      have hw2 : x % 128 % 256 = x % 128 := by omega
      have hge : 128 ≤ x := by omega
      clear hq2
      go_wp2_with (at_builtin; refine wpList_append_own _ rfl (.tmp 10) (.tmp 15) 22 rfl w.heap.size 5 i0 (.int .u8 0) 1 1 Tryz.underlying22 hi hz0 hz1 hz2 rfl (by decide) _ _ _ rfl (HO.out.alloc _) ⟨_, 0, none⟩ 1 1 [.int .u8 (x % 128 + 128)] rfl rfl ?d1 ?d2 ?d3 ?d4 ?d5 ?_)
      case d1 => exact cell_one_new _ _ _
      case d2 => intro u hu; simp at hu; subst hu; rfl
      case d3 => unfold maxLen; omega
      case d4 => omega
      case d5 => have := HB.out.size; simp; omega
      intro v2 w2 hown2 hgrow2 hnil2
      have hb2 := (HB.out.alloc HB.out.size _).grown hgrow2 (by have := HB.out.size; simp; omega) (by intro q hq; exact (HO.out.lt _ hq).1)
      have HS2 : Hid (w2.ownsRow w.heap.size 5 1 v2 (j + 1) (cellsOf (glZ m) (j + 1)) ∧ Below w.heap.size w w2) := ⟨by rw [cellsOf_succ, HG.out, if_pos hj1, HX.out]; exact hown2, hb2⟩
      clear hown2 hgrow2 hnil2 hb2
      go_wp2
      go_roundw
      case rel => exact ⟨j + 1, hj1, by rw [HQ.out, HX.out], HS2.out.1, HS2.out.2⟩
      case measure => simp [intOf]; omega
    · have hj1 : j + 1 = kn m := by omega
      have hw : x % 256 = x := by omega
      have HJ : Hid (j + 1 = kn m) := hj1
      have hge : ¬ 128 ≤ x := by omega
      clear hq2 hj1
      go_wp2_with (at_builtin; refine wpList_append_own _ rfl (.tmp 19) (.tmp 22) 22 rfl w.heap.size 5 i0 (.int .u8 0) 1 1 Tryz.underlying22 hi hz0 hz1 hz2 rfl (by decide) _ _ _ rfl (HO.out.alloc _) ⟨_, 0, none⟩ 1 1 [.int .u8 x] rfl rfl ?e1 ?e2 ?e3 ?e4 ?e5 ?_)
      case e2 => first | rfl | (intro u hu; simp at hu; subst hu; rfl)
      case e3 => unfold maxLen; omega
      case e4 => omega
      case e5 => have := HB.out.size; first | omega | (simp; omega)
      intro v2 w2 hown2 hgrow2 hnil2
      have hb2 := (HB.out.alloc HB.out.size _).grown hgrow2 (by have := HB.out.size; simp; omega) (by intro q hq; exact (HO.out.lt _ hq).1)
      have hex : ∃ g cp, v2 = .slice (some ⟨g, 0, none⟩) (j + 1) cp := by
        obtain ⟨_, h | ⟨g, cp, cur, hv, _⟩⟩ := hown2
        · exact absurd h.1 (by simpa using hnil2)
        · exact ⟨g, cp, hv⟩
      obtain ⟨g2, cp2, rfl⟩ := hex
      have hown3 : w2.ownsRow w.heap.size 5 1 (.slice (some ⟨g2, 0, none⟩) (j + 1) cp2) (j + 1) (cellsOf (glZ m) (j + 1)) := by
        rw [cellsOf_succ, HG.out, if_neg (by have := HJ.out; omega), HX.out]
        exact hown2
      rw [HJ.out] at hown3
      have HS : Hid (w2.ownsRow w.heap.size 5 1 (.slice (some ⟨g2, 0, none⟩) (kn m) cp2) (kn m) (cellsOf (glZ m) (kn m)) ∧ Below w.heap.size w w2) := ⟨hown3, hb2⟩
      clear hown2 hgrow2 hnil2 hb2 hown3
      rw [HJ.out]
      go_wp2
      go_ret
      exact ⟨g2, cp2, rfl, HS.out.1, HS.out.2⟩

set_option maxRecDepth 100000 in
set_option maxHeartbeats 1000000 in
theorem rgroups_high (n : Int) (hn : 268435455 < n) (m : Int) (hm : m = 268435455) (w : World) :
    Calls Tryz.prog 24 #[.int .i64 n] w fun e w' => Made w w' e (kn m) (cellsOf (glZ m) (kn m)) := by
  obtain ⟨i0, hi, hz0, hz1, hz2⟩ := info_parts Tryz.info5
  have hkb := kn_bd m
  have hm0 : 0 ≤ m := by omega
  have hm1 : m ≤ 268435455 := by omega
  have HM : Hid (m = 268435455) := hm
  have n1 : ¬ n < 0 := by omega
  have n5 : ¬ n ≤ 268435455 := by omega
  clear hm
  go_enter Tryz.func24, Tryz.ntmps24
  go_wp2
  go_loopw [0, 3] (fun n v wr => ∃ j : Nat, j < kn m ∧ n = .int .i64 (qn m j) ∧ wr.ownsRow w.heap.size 5 1 v j (cellsOf (glZ m) j) ∧ Below w.heap.size w wr) (fun n _ _ => (intOf n).toNat)
  case atStart => exact ⟨0, by omega, by rw [show qn m 0 = m from rfl, HM.out], World.ownsRow_nil _ _ _ _, Below.refl _ _⟩
  case round =>
    obtain ⟨j, hj, rfl, ho, hbel⟩ := hrel
    have hq := qn_more m hm0 hm1 j hj
    have HO : Hid (wr.ownsRow w.heap.size 5 1 u3 j (cellsOf (glZ m) j)) := ho
    have HB : Hid (Below w.heap.size w wr) := hbel
    have HG : Hid (glZ m j = if j + 1 < kn m then qn m j % 128 + 128 else qn m j) := by
      show glZ m j = _
      unfold glZ
      split
      · rfl
      · rw [if_pos (by omega)]
    have HQ : Hid (qn m (j + 1) = qn m j / 128) := rfl
    obtain ⟨x, hx⟩ : ∃ x, qn m j = x := ⟨_, rfl⟩
    rw [hx] at hq ⊢
    have HX : Hid (qn m j = x) := hx
    clear ho hbel hx
    obtain ⟨hq0, hq1, hq2⟩ := hq
    by_cases hlt : 127 < x
    · have hj1 : j + 1 < kn m := hq2.1 hlt
      have hw : (x % 128 + 128) % 256 = x % 128 + 128 := by omega
      have hw2 : x % 128 % 256 = x % 128 := by omega
      have hge : 128 ≤ x := by omega
      clear hq2
      go_wp2_with (at_builtin; refine wpList_append_own _ rfl (.tmp 10) (.tmp 15) 22 rfl w.heap.size 5 i0 (.int .u8 0) 1 1 Tryz.underlying22 hi hz0 hz1 hz2 rfl (by decide) _ _ _ rfl (HO.out.alloc _) ⟨_, 0, none⟩ 1 1 [.int .u8 (x % 128 + 128)] rfl rfl ?d1 ?d2 ?d3 ?d4 ?d5 ?_)
      case d1 => exact cell_one_new _ _ _
      case d2 => intro u hu; simp at hu; subst hu; rfl
      case d3 => unfold maxLen; omega
      case d4 => omega
      case d5 => have := HB.out.size; simp; omega
      intro v2 w2 hown2 hgrow2 hnil2
      have hb2 := (HB.out.alloc HB.out.size _).grown hgrow2 (by have := HB.out.size; simp; omega) (by intro q hq; exact (HO.out.lt _ hq).1)
      have HS2 : Hid (w2.ownsRow w.heap.size 5 1 v2 (j + 1) (cellsOf (glZ m) (j + 1)) ∧ Below w.heap.size w w2) := ⟨by rw [cellsOf_succ, HG.out, if_pos hj1, HX.out]; exact hown2, hb2⟩
      clear hown2 hgrow2 hnil2 hb2
      go_wp2
      go_roundw
      case rel => exact ⟨j + 1, hj1, by rw [HQ.out, HX.out], HS2.out.1, HS2.out.2⟩
      case measure => simp [intOf]; omega
    · have hj1 : j + 1 = kn m := by omega
      have hw : x % 256 = x := by omega
      have HJ : Hid (j + 1 = kn m) := hj1
      have hge : ¬ 128 ≤ x := by omega
      clear hq2 hj1
      go_wp2_with (at_builtin; refine wpList_append_own _ rfl (.tmp 19) (.tmp 22) 22 rfl w.heap.size 5 i0 (.int .u8 0) 1 1 Tryz.underlying22 hi hz0 hz1 hz2 rfl (by decide) _ _ _ rfl (HO.out.alloc _) ⟨_, 0, none⟩ 1 1 [.int .u8 x] rfl rfl ?e1 ?e2 ?e3 ?e4 ?e5 ?_)
      case e2 => first | rfl | (intro u hu; simp at hu; subst hu; rfl)
      case e3 => unfold maxLen; omega
      case e4 => omega
      case e5 => have := HB.out.size; first | omega | (simp; omega)
      intro v2 w2 hown2 hgrow2 hnil2
      have hb2 := (HB.out.alloc HB.out.size _).grown hgrow2 (by have := HB.out.size; simp; omega) (by intro q hq; exact (HO.out.lt _ hq).1)
      have hex : ∃ g cp, v2 = .slice (some ⟨g, 0, none⟩) (j + 1) cp := by
        obtain ⟨_, h | ⟨g, cp, cur, hv, _⟩⟩ := hown2
        · exact absurd h.1 (by simpa using hnil2)
        · exact ⟨g, cp, hv⟩
      obtain ⟨g2, cp2, rfl⟩ := hex
      have hown3 : w2.ownsRow w.heap.size 5 1 (.slice (some ⟨g2, 0, none⟩) (j + 1) cp2) (j + 1) (cellsOf (glZ m) (j + 1)) := by
        rw [cellsOf_succ, HG.out, if_neg (by have := HJ.out; omega), HX.out]
        exact hown2
      rw [HJ.out] at hown3
      have HS : Hid (w2.ownsRow w.heap.size 5 1 (.slice (some ⟨g2, 0, none⟩) (kn m) cp2) (kn m) (cellsOf (glZ m) (kn m)) ∧ Below w.heap.size w w2) := ⟨hown3, hb2⟩
      clear hown2 hgrow2 hnil2 hb2 hown3
      rw [HJ.out]
      go_wp2
      go_ret
      exact ⟨g2, cp2, rfl, HS.out.1, HS.out.2⟩

set_option maxRecDepth 100000 in
set_option maxHeartbeats 1000000 in
theorem rgroups_in (n : Int) (hn : 0 ≤ n) (hn' : n ≤ 268435455) (m : Int) (hm : m = n) (w : World) :
    Calls Tryz.prog 24 #[.int .i64 n] w fun e w' => Made w w' e (kn m) (cellsOf (glZ m) (kn m)) := by
  obtain ⟨i0, hi, hz0, hz1, hz2⟩ := info_parts Tryz.info5
  have hkb := kn_bd m
  have hm0 : 0 ≤ m := by omega
  have hm1 : m ≤ 268435455 := by omega
  have HM : Hid (m = n) := hm
  have n1 : ¬ n < 0 := by omega
  have n5 : ¬ 268435455 < n := by omega
  clear hm
  go_enter Tryz.func24, Tryz.ntmps24
  go_wp2
  go_loopw [0, 3] (fun n v wr => ∃ j : Nat, j < kn m ∧ n = .int .i64 (qn m j) ∧ wr.ownsRow w.heap.size 5 1 v j (cellsOf (glZ m) j) ∧ Below w.heap.size w wr) (fun n _ _ => (intOf n).toNat)
  case atStart => exact ⟨0, by omega, by rw [show qn m 0 = m from rfl, HM.out], World.ownsRow_nil _ _ _ _, Below.refl _ _⟩
  case round =>
    obtain ⟨j, hj, rfl, ho, hbel⟩ := hrel
    have hq := qn_more m hm0 hm1 j hj
    have HO : Hid (wr.ownsRow w.heap.size 5 1 u3 j (cellsOf (glZ m) j)) := ho
    have HB : Hid (Below w.heap.size w wr) := hbel
    have HG : Hid (glZ m j = if j + 1 < kn m then qn m j % 128 + 128 else qn m j) := by
      show glZ m j = _
      unfold glZ
      split
      · rfl
      · rw [if_pos (by omega)]
    have HQ : Hid (qn m (j + 1) = qn m j / 128) := rfl
    obtain ⟨x, hx⟩ : ∃ x, qn m j = x := ⟨_, rfl⟩
    rw [hx] at hq ⊢
    have HX : Hid (qn m j = x) := hx
    clear ho hbel hx
    obtain ⟨hq0, hq1, hq2⟩ := hq
    by_cases hlt : 127 < x
    · have hj1 : j + 1 < kn m := hq2.1 hlt
      have hw : (x % 128 + 128) % 256 = x % 128 + 128 := by omega
      have hw2 : x % 128 % 256 = x % 128 := by omega
      have hge : 128 ≤ x := by omega
      clear hq2
      go_wp2_with (at_builtin; refine wpList_append_own _ rfl (.tmp 10) (.tmp 15) 22 rfl w.heap.size 5 i0 (.int .u8 0) 1 1 Tryz.underlying22 hi hz0 hz1 hz2 rfl (by decide) _ _ _ rfl (HO.out.alloc _) ⟨_, 0, none⟩ 1 1 [.int .u8 (x % 128 + 128)] rfl rfl ?d1 ?d2 ?d3 ?d4 ?d5 ?_)
      case d1 => exact cell_one_new _ _ _
      case d2 => intro u hu; simp at hu; subst hu; rfl
      case d3 => unfold maxLen; omega
      case d4 => omega
      case d5 => have := HB.out.size; simp; omega
      intro v2 w2 hown2 hgrow2 hnil2
      have hb2 := (HB.out.alloc HB.out.size _).grown hgrow2 (by have := HB.out.size; simp; omega) (by intro q hq; exact (HO.out.lt _ hq).1)
      have HS2 : Hid (w2.ownsRow w.heap.size 5 1 v2 (j + 1) (cellsOf (glZ m) (j + 1)) ∧ Below w.heap.size w w2) := ⟨by rw [cellsOf_succ, HG.out, if_pos hj1, HX.out]; exact hown2, hb2⟩
      clear hown2 hgrow2 hnil2 hb2
      go_wp2
      go_roundw
      case rel => exact ⟨j + 1, hj1, by rw [HQ.out, HX.out], HS2.out.1, HS2.out.2⟩
      case measure => simp [intOf]; omega
    · have hj1 : j + 1 = kn m := by omega
      have hw : x % 256 = x := by omega
      have HJ : Hid (j + 1 = kn m) := hj1
      have hge : ¬ 128 ≤ x := by omega
      clear hq2 hj1
      go_wp2_with (at_builtin; refine wpList_append_own _ rfl (.tmp 19) (.tmp 22) 22 rfl w.heap.size 5 i0 (.int .u8 0) 1 1 Tryz.underlying22 hi hz0 hz1 hz2 rfl (by decide) _ _ _ rfl (HO.out.alloc _) ⟨_, 0, none⟩ 1 1 [.int .u8 x] rfl rfl ?e1 ?e2 ?e3 ?e4 ?e5 ?_)
      case e2 => first | rfl | (intro u hu; simp at hu; subst hu; rfl)
      case e3 => unfold maxLen; omega
      case e4 => omega
      case e5 => have := HB.out.size; first | omega | (simp; omega)
      intro v2 w2 hown2 hgrow2 hnil2
      have hb2 := (HB.out.alloc HB.out.size _).grown hgrow2 (by have := HB.out.size; simp; omega) (by intro q hq; exact (HO.out.lt _ hq).1)
      have hex : ∃ g cp, v2 = .slice (some ⟨g, 0, none⟩) (j + 1) cp := by
        obtain ⟨_, h | ⟨g, cp, cur, hv, _⟩⟩ := hown2
        · exact absurd h.1 (by simpa using hnil2)
        · exact ⟨g, cp, hv⟩
      obtain ⟨g2, cp2, rfl⟩ := hex
      have hown3 : w2.ownsRow w.heap.size 5 1 (.slice (some ⟨g2, 0, none⟩) (j + 1) cp2) (j + 1) (cellsOf (glZ m) (j + 1)) := by
        rw [cellsOf_succ, HG.out, if_neg (by have := HJ.out; omega), HX.out]
        exact hown2
      rw [HJ.out] at hown3
      have HS : Hid (w2.ownsRow w.heap.size 5 1 (.slice (some ⟨g2, 0, none⟩) (kn m) cp2) (kn m) (cellsOf (glZ m) (kn m)) ∧ Below w.heap.size w w2) := ⟨hown3, hb2⟩
      clear hown2 hgrow2 hnil2 hb2 hown3
      rw [HJ.out]
      go_wp2
      go_ret
      exact ⟨g2, cp2, rfl, HS.out.1, HS.out.2⟩

end Go.Proofs.YtkjeneklkdekoaaGreatDoor
