import Derived.Test.YtphofgnehdlafaaGreatDoorBkb
import Derived.Lib.AppendStr
import Derived.Deep.QuietTactic
import Derived.BigQuiet
import Derived.Test.YtphofgnehdlafaaGreatDoorBkg
namespace Go.Proofs.YtphofgnehdlafaaGreatDoor
open Go Go.RowKit
set_option linter.unusedSimpArgs false
set_option linter.unusedVariables false
set_option maxRecDepth 100000
set_option maxHeartbeats 1000000
def Made (w w' : World) (e : Ending) (n : Nat) (xs : List Value) : Prop :=
 ∃ g cp, e = .returned (.slice (some ⟨g, 0, none⟩) n cp) ∧ w'.ownsRow w.heap.size 5 1 (.slice (some ⟨g, 0, none⟩) n cp) n xs ∧ Below w.heap.size w w'
theorem made_came {w w' : World} {g n cp : Nat} {z : Nat → Int} {base : Nat} (ho : w'.ownsRow base 5 1 (.slice (some ⟨g, 0, none⟩) n cp) n (cellsOf z n)) (hz : ∀ i, 0 ≤ z i ∧ z i ≤ 255) : Came w' (some ⟨g, 0, none⟩) n cp z := by
 refine ⟨?_, hz, .inr ⟨_, rfl, fun i hi => ?_⟩⟩
 ·
  obtain ⟨_, h | ⟨g', cp', cur, hv, _, _, hc, _⟩⟩ := ho
  ·
   cases h.1
  ·
   cases hv
   exact hc
 ·
  rw [plain_add, Nat.zero_add, ho.cellAt i (by omega)]
  exact cellsOf_at z n i hi
theorem behind_any (a0 : Option Addr) (ad : Addr) (l0 k0 l1 k1 : Nat) (z0 z1 : Nat → Int) (w : World)
    (h0 : Came w a0 l0 k0 z0) (h1 : Came w (some ad) l1 k1 z1) (hp : 1 ≤ l0 + l1) (hl0 : l0 ≤ 1400000) (hl1 : l1 ≤ 1400000) :
    Calls Tryz.prog 220 #[.slice a0 l0 k0, .slice (some ad) l1 k1] w fun e w' => Made w w' e (l0 + l1) (cellsOf z0 l0 ++ cellsOf z1 l1) := by
  have hb0 : Below w.heap.size w (w.alloc (.cells #[.slice a0 l0 k0, .slice (some ad) l1 k1] 22)) := (Below.refl _ _).alloc (Nat.le_refl _) _
  have C0 : Hid (Calls Tryz.prog 258 #[.slice (some ⟨w.heap.size, 0, none⟩) 2 2] (w.alloc (.cells #[.slice a0 l0 k0, .slice (some ad) l1 k1] 22)) fun e w' => ∃ g cp, e = .returned (.slice (some ⟨g, 0, none⟩) (l0 + l1) cp) ∧ w'.ownsRow w.heap.size 5 1 (.slice (some ⟨g, 0, none⟩) (l0 + l1) cp) (l0 + l1) (cellsOf z0 l0 ++ cellsOf z1 l1) ∧ Below w.heap.size w w') := by
    refine (concat_any w.heap.size a0 ad l0 k0 l1 k1 z0 z1 _ (by simp) (by simp) (came_below (B := 0) h0 hb0) (came_below (B := 0) h1 hb0) hp hl0 hl1).mono ?_
    rintro e w' ⟨g, cp, rfl, ho, hb⟩
    refine ⟨g, cp, rfl, ?_, hb0.trans (hb.mono (by simp))⟩
    obtain ⟨q1, q | ⟨g', cp', cur, hv, hg', hr⟩⟩ := ho
    · cases q.1
    · exact ⟨q1, .inr ⟨g', cp', cur, hv, by simp at hg'; omega, hr⟩⟩
  clear h0 h1 hb0
  go_enter Tryz.func220, Tryz.ntmps220
  go_wp2_with (go_at_call 258; refine C0.out.mono ?_; rintro e w' ⟨g, cp, rfl, ho, hb⟩)
  go_ret
  exact ⟨g, cp, rfl, ho, hb⟩
def numZ (n : Int) : Nat → Int := fun i => if i = 0 then n / 256 % 256 else if i = 1 then n % 256 else 0
theorem numZ_bd (n : Int) (i : Nat) : 0 ≤ numZ n i ∧ numZ n i ≤ 255 := by
 unfold numZ
 split
 ·
  omega
 ·
  split <;> omega
theorem made_alloc {w w' : World} {o : Obj} {e : Ending} {n : Nat} {xs : List Value} (h : Made (w.alloc o) w' e n xs) : Made w w' e n xs := by
 obtain ⟨g, cp, rfl, ⟨q1, q | ⟨g', cp', cur, hv, hg', hr⟩⟩, hb⟩ := h
 ·
  cases q.1
 ·
  exact ⟨g, cp, rfl, ⟨q1, .inr ⟨g', cp', cur, hv, by simp at hg'; omega, hr⟩⟩, ((Below.refl _ _).alloc (Nat.le_refl _) _).trans (hb.mono (by simp))⟩
theorem made_below {w w0 w' : World} {e : Ending} {n : Nat} {xs : List Value} (hb0 : Below w.heap.size w w0) (h : Made w0 w' e n xs) : Made w w' e n xs := by
 have hs := hb0.size
 obtain ⟨g, cp, rfl, ⟨q1, q | ⟨g', cp', cur, hv, hg', hr⟩⟩, hb⟩ := h
 ·
  cases q.1
 ·
  exact ⟨g, cp, rfl, ⟨q1, .inr ⟨g', cp', cur, hv, by omega, hr⟩⟩, hb0.trans (hb.mono hs)⟩
theorem new_came (w : World) (n : Nat) (z : Nat → Int) (cs : Array Value) (hcs : cs.toList = cellsOf z n) (hz : ∀ i, 0 ≤ z i ∧ z i ≤ 255) : Came (w.alloc (.cells cs 5)) (some ⟨w.heap.size, 0, none⟩) n n z := by
 refine ⟨Nat.le_refl _, hz, .inr ⟨_, rfl, fun i hi => ?_⟩⟩
 rw [plain_add, Nat.zero_add, World.cell?_alloc_at _ _ _ _ rfl]
 have h := cellsOf_at z n i hi
 rw [← hcs] at h
 simpa using h
theorem putNumber_any (a0 : Option Addr) (l0 k0 : Nat) (z0 : Nat → Int) (n : Int) (w : World) (h0 : Came w a0 l0 k0 z0) (hl0 : l0 ≤ 1400000) :
    Calls Tryz.prog 262 #[.slice a0 l0 k0, .int .i64 n] w fun e w' => Made w w' e (l0 + 2) (cellsOf z0 l0 ++ cellsOf (numZ n) 2) := by
  have B0 : Hid (Calls Tryz.prog 220 #[.slice a0 l0 k0, .slice (some ⟨w.heap.size, 0, none⟩) 2 2] (w.alloc (.cells #[.int .u8 (n / 256 % 256), .int .u8 (n % 256)] 5)) fun e w' => Made w w' e (l0 + 2) (cellsOf z0 l0 ++ cellsOf (numZ n) 2)) :=
    (behind_any a0 ⟨w.heap.size, 0, none⟩ l0 k0 2 2 z0 (numZ n) _ (came_below (B := 0) h0 ((Below.refl _ _).alloc (Nat.le_refl _) _)) (new_came w 2 (numZ n) _ rfl (numZ_bd n)) (by omega) hl0 (by omega)).mono fun e w' h => made_alloc h
  clear h0
  go_enter Tryz.func262, Tryz.ntmps262
  go_wp2_with (go_at_call 220; refine B0.out.mono ?_; rintro e w' ⟨g, cp, rfl, ho, hb⟩)
  go_ret
  exact ⟨g, cp, rfl, ho, hb⟩
def qn (m : Int) : Nat → Int
 | 0 => m
 | j + 1 => qn m j / 128
def kn (m : Int) : Nat := if m < 128 then 1 else if m < 16384 then 2 else if m < 2097152 then 3 else 4
def glZ (m : Int) : Nat → Int := fun i => if i + 1 < kn m then qn m i % 128 + 128 else if i + 1 = kn m then qn m i else 0
theorem kn_bd (m : Int) : 1 ≤ kn m ∧ kn m ≤ 4 := by unfold kn; split; omega; split; omega; split <;> omega
theorem qn_more (m : Int) (h0 : 0 ≤ m) (h1 : m ≤ 268435455) (j : Nat) (hj : j < kn m) : 0 ≤ qn m j ∧ qn m j ≤ 268435455 ∧ (127 < qn m j ↔ j + 1 < kn m) := by
 by_cases a : m < 128
 ·
  have hk : kn m = 1 := by simp [kn, a]
  rw [hk] at hj ⊢
  obtain rfl : j = 0 := by omega
  simp only [qn]
  omega
 by_cases b : m < 16384
 ·
  have hk : kn m = 2 := by simp [kn, a, b]
  rw [hk] at hj ⊢
  rcases (show j = 0 ∨ j = 1 by omega) with rfl | rfl
  all_goals
   simp only [qn]
   omega
 by_cases c : m < 2097152
 ·
  have hk : kn m = 3 := by simp [kn, a, b, c]
  rw [hk] at hj ⊢
  rcases (show j = 0 ∨ j = 1 ∨ j = 2 by omega) with rfl | rfl | rfl
  all_goals
   simp only [qn]
   omega
 ·
  have hk : kn m = 4 := by simp [kn, a, b, c]
  rw [hk] at hj ⊢
  rcases (show j = 0 ∨ j = 1 ∨ j = 2 ∨ j = 3 by omega) with rfl | rfl | rfl | rfl
  all_goals
   simp only [qn]
   omega
theorem glZ_bd (m : Int) (h0 : 0 ≤ m) (h1 : m ≤ 268435455) (i : Nat) : 0 ≤ glZ m i ∧ glZ m i ≤ 255 := by
 unfold glZ
 split
 ·
  omega
 ·
  split
  ·
   rename_i a b
   have := qn_more m h0 h1 i (by omega)
   omega
  ·
   omega
theorem and127i (x : Int) (h0 : 0 ≤ x) (h1 : x ≤ 268435455) : bits .and .i64 x 127 = x % 128 := bits_mask .i64 62 (by decide) wraps_i64 7 (by decide) x h0 (by omega)
theorem or128i (x : Int) : bits .or .i64 (x % 128) 128 = x % 128 + 128 := or_up 7 (by decide) _ _ (by omega) (by omega) (by omega) (by omega) (by omega) (by omega)
theorem putLength_in (a0 : Option Addr) (l0 k0 : Nat) (z0 : Nat → Int) (m : Int) (hm0 : 0 ≤ m) (hm1 : m ≤ 268435455) (w : World) (h0 : Came w a0 l0 k0 z0) (hl0 : l0 ≤ 1300000) :
    Calls Tryz.prog 145 #[.slice a0 l0 k0, .int .i64 m] w fun e w' => Made w w' e (l0 + kn m) (cellsOf z0 l0 ++ cellsOf (glZ m) (kn m)) := by
  obtain ⟨i0, hi, hz0, hz1, hz2⟩ := info_parts Tryz.info5
  have HC : Hid (Came w a0 l0 k0 z0) := h0
  clear h0
  have hkb := kn_bd m
  go_enter Tryz.func145, Tryz.ntmps145
  go_wp2
  go_loopw [1, 5] (fun n v wr => ∃ j : Nat, j < kn m ∧ n = .int .i64 (qn m j) ∧ wr.ownsRow w.heap.size 5 1 v j (cellsOf (glZ m) j) ∧ Below w.heap.size w wr) (fun n _ _ => (intOf n).toNat)
  case atStart => exact ⟨0, by omega, rfl, World.ownsRow_nil _ _ _ _, Below.refl _ _⟩
  case round =>
    obtain ⟨j, hj, rfl, ho, hbel⟩ := hrel
    have hq := qn_more m hm0 hm1 j hj
    have HO : Hid (wr.ownsRow w.heap.size 5 1 u5 j (cellsOf (glZ m) j)) := ho
    have HB : Hid (Below w.heap.size w wr) := hbel
    have HG : Hid (glZ m j = if j + 1 < kn m then qn m j % 128 + 128 else qn m j) := by
      show glZ m j = _
      unfold glZ
      split
      · rfl
      · rw [if_pos (by omega)]
    have HQ : Hid (qn m (j + 1) = qn m j / 128) := rfl
    obtain ⟨x, hx⟩ : ∃ x, qn m j = x := ⟨_, rfl⟩
    rw [hx] at hq ⊢
    have HX : Hid (qn m j = x) := hx
    clear ho hbel hx
    obtain ⟨hq0, hq1, hq2⟩ := hq
    have f1 := and127i x hq0 hq1
    have f2 := or128i x
    by_cases hlt : 127 < x
    · have hj1 : j + 1 < kn m := hq2.1 hlt
      have hw : (x % 128 + 128) % 256 = x % 128 + 128 := by omega
      clear hq2
      go_wp2_with (at_builtin; refine wpList_append_own _ rfl (.tmp 11) (.tmp 16) 22 rfl w.heap.size 5 i0 (.int .u8 0) 1 1 Tryz.underlying22 hi hz0 hz1 hz2 rfl (by decide) _ _ _ rfl (HO.out.alloc _) ⟨_, 0, none⟩ 1 1 [.int .u8 (x % 128 + 128)] rfl rfl ?d1 ?d2 ?d3 ?d4 ?d5 ?_)
      case d1 => exact cell_one_new _ _ _
      case d2 => intro u hu; simp at hu; subst hu; rfl
      case d3 => unfold maxLen; omega
      case d4 => omega
      case d5 => have := HB.out.size; simp; omega
      intro v2 w2 hown2 hgrow2 hnil2
      have hb2 := (HB.out.alloc HB.out.size _).grown hgrow2 (by have := HB.out.size; simp; omega) (by intro q hq; exact (HO.out.lt _ hq).1)
      have HS2 : Hid (w2.ownsRow w.heap.size 5 1 v2 (j + 1) (cellsOf (glZ m) (j + 1)) ∧ Below w.heap.size w w2) := ⟨by rw [cellsOf_succ, HG.out, if_pos hj1, HX.out]; exact hown2, hb2⟩
      clear hown2 hgrow2 hnil2 hb2
      go_wp2
      go_roundw
      case rel => exact ⟨j + 1, hj1, by rw [HQ.out, HX.out], HS2.out.1, HS2.out.2⟩
      case measure => simp [intOf]; omega
    · have hj1 : j + 1 = kn m := by omega
      have hw : x % 256 = x := by omega
      have HJ : Hid (j + 1 = kn m) := hj1
      clear hq2 hj1 f1 f2
      go_wp2_with (at_builtin; refine wpList_append_own _ rfl (.tmp 21) (.tmp 24) 22 rfl w.heap.size 5 i0 (.int .u8 0) 1 1 Tryz.underlying22 hi hz0 hz1 hz2 rfl (by decide) _ _ _ rfl (HO.out.alloc _) ⟨_, 0, none⟩ 1 1 [.int .u8 x] rfl rfl ?e1 ?e2 ?e3 ?e4 ?e5 ?_)
      case e2 => first | rfl | (intro u hu; simp at hu; subst hu; rfl)
      case e3 => unfold maxLen; omega
      case e4 => omega
      case e5 => have := HB.out.size; first | omega | (simp; omega)
      intro v2 w2 hown2 hgrow2 hnil2
      have hb2 := (HB.out.alloc HB.out.size _).grown hgrow2 (by have := HB.out.size; simp; omega) (by intro q hq; exact (HO.out.lt _ hq).1)
      have hex : ∃ g cp, v2 = .slice (some ⟨g, 0, none⟩) (j + 1) cp := by
        obtain ⟨_, h | ⟨g, cp, cur, hv, _⟩⟩ := hown2
        · exact absurd h.1 (by simpa using hnil2)
        · exact ⟨g, cp, hv⟩
      obtain ⟨g2, cp2, rfl⟩ := hex
      have hown3 : w2.ownsRow w.heap.size 5 1 (.slice (some ⟨g2, 0, none⟩) (j + 1) cp2) (j + 1) (cellsOf (glZ m) (j + 1)) := by
        rw [cellsOf_succ, HG.out, if_neg (by have := HJ.out; omega), HX.out]
        exact hown2
      have hcm := made_came (w := w) hown3 (glZ_bd m hm0 hm1)
      have B0 : Hid (Calls Tryz.prog 220 #[.slice a0 l0 k0, .slice (some ⟨g2, 0, none⟩) (j + 1) cp2] w2 fun e w' => Made w w' e (l0 + kn m) (cellsOf z0 l0 ++ cellsOf (glZ m) (kn m))) := by
        have h := behind_any a0 ⟨g2, 0, none⟩ l0 k0 (j + 1) cp2 z0 (glZ m) w2 (came_below (B := 0) HC.out hb2) hcm (by omega) (by omega) (by omega)
        rw [HJ.out] at h ⊢
        exact h.mono fun e w' h => made_below hb2 h
      clear hown2 hgrow2 hnil2 hb2 hown3 hcm
      go_wp2_with (go_at_call 220; refine B0.out.mono ?_; rintro e w' ⟨g, cp, rfl, ho, hb⟩)
      go_ret
      exact ⟨g, cp, rfl, ho, hb⟩
end Go.Proofs.YtphofgnehdlafaaGreatDoor
namespace Go.Proofs.YtphofgnehdlafaaGreatDoor.Bk
open Go Go.RowKit
set_option linter.unusedSimpArgs false
set_option linter.unusedVariables false
set_option maxRecDepth 100000
set_option maxHeartbeats 1000000
def RowAt (w : World) (v : Value) (n : Nat) (xs : List Value) : Prop :=
 xs.length = n ∧ ((v = .slice none 0 0 ∧ n = 0) ∨ ∃ g cp, v = .slice (some ⟨g, 0, none⟩) n cp ∧ n ≤ cp ∧ ∀ i, i < n → w.cell? ⟨g, i, none⟩ = xs[i]?)
theorem due_any (bb : Nat) (cs : Array Value) (n t : Nat) (w : World) (hn : n ≤ 1000000) (ht : t ≤ 1000000) (hB : BkAt w bb cs) (c0 : cs[0]? = some (.bool false)) (c2 : cs[2]? = some (.int .i64 t)) :
    Calls Tryz.prog 114 #[.pointer (some ⟨bb, 0, none⟩), .int .i64 n] w fun e w1 => (∃ d : Nat, e = .returned (.int .i64 d) ∧ t ≤ d ∧ d ≤ t + 8) ∧ w1 = w := by
  have x0 := (bk_cell hB c0).1
  have x2 := (bk_cell hB c2).1
  clear hB c0 c2
  go_enter Tryz.func114, Tryz.ntmps114
  go_wp2
  · go_ret
    exact ⟨⟨t, rfl, by omega, by omega⟩, rfl⟩
  · go_ret
    exact ⟨⟨t + 1 + n / 3 % 8, by simp, by omega, by omega⟩, rfl⟩
  · go_ret
    exact ⟨⟨t + 1, by simp, by omega, by omega⟩, rfl⟩
end Go.Proofs.YtphofgnehdlafaaGreatDoor.Bk
