import Derived.Test.YtphofgnehdlafaaGreatDoorBki
import Derived.Test.YtphofgnehdlafaaGreatDoorBsix
import Derived.Test.YtphofgnehdlafaaGreatDoorBkb
namespace Go.Proofs.YtphofgnehdlafaaGreatDoor.Bk
open Go Go.RowKit
set_option linter.unusedSimpArgs false
set_option linter.unusedVariables false
set_option maxRecDepth 100000
set_option maxHeartbeats 1000000
theorem BkAt.kept {w w' : World} {bb : Nat} {cs : Array Value} (h : BkAt w bb cs) (hb : Below w.heap.size w w') : BkAt w' bb cs := (hb.block bb (lt_of_block h)).trans h
theorem hold_bk (bb : Nat) (cs : Array Value) (w : World) (hB : BkAt w bb cs) (hr : Rest cs) (h1 : cs[1]? = some (.bool false)) (h : Calls Tryz.prog 58 #[.pointer (some ⟨bb, 0, none⟩)] w fun e w1 => e = .returned (.bool true) ∧ Below w.heap.size w w1) :
    Calls Tryz.prog 17 #[.pointer (some ⟨bb, 0, none⟩)] w fun e w1 => e = .returned (.bool true) ∧ Below w.heap.size w w1 := by
  have H0 : Hid (Calls Tryz.prog 58 #[.pointer (some ⟨bb, 0, none⟩)] w fun e w1 => e = .returned (.bool true) ∧ Below w.heap.size w w1) := h
  have HB : Hid (BkAt w bb cs ∧ Rest cs) := ⟨hB, hr⟩
  have x1 : w.cell? ⟨bb, 1, none⟩ = some (.bool false) := (bk_cell hB h1).1
  clear h hB hr h1
  go_enter Tryz.func17, Tryz.ntmps17
  go_wp2_with fail
  go_must (go_at_call 58)
  refine H0.out.mono ?_
  rintro e w1 ⟨rfl, hb⟩
  have HB1 : Hid (BkAt w1 bb cs ∧ Rest cs) := ⟨HB.out.1.kept hb, HB.out.2⟩
  have HL : Hid (Below w.heap.size w w1) := hb
  clear hb x1
  go_wp2_with (first | (go_at_call 59; refine (holdInts_none bb cs _ HB1.out.1 HB1.out.2).mono ?_; rintro e w2 ⟨rfl, he⟩; obtain rfl := he.symm; clear he) | (go_at_call 60; refine (holdTexts_none bb cs _ HB1.out.1 HB1.out.2).mono ?_; rintro e w2 ⟨rfl, he⟩; obtain rfl := he.symm; clear he) | (go_at_call 61; refine (holdEntries_none bb cs _ HB1.out.1 HB1.out.2).mono ?_; rintro e w2 ⟨rfl, he⟩; obtain rfl := he.symm; clear he) | (go_at_call 62; refine (holdAsks_none bb cs _ HB1.out.1 HB1.out.2).mono ?_; rintro e w2 ⟨rfl, he⟩; obtain rfl := he.symm; clear he) | (go_at_call 63; refine (holdUsers_none bb cs _ HB1.out.1 HB1.out.2).mono ?_; rintro e w2 ⟨rfl, he⟩; obtain rfl := he.symm; clear he) | (go_at_call 64; refine (holdWhos_none bb cs _ HB1.out.1 HB1.out.2).mono ?_; rintro e w2 ⟨rfl, he⟩; obtain rfl := he.symm; clear he) | (go_at_call 65; refine (holdChunks_none bb cs _ HB1.out.1 HB1.out.2).mono ?_; rintro e w2 ⟨rfl, he⟩; obtain rfl := he.symm; clear he) | (go_at_call 66; refine (holdMessages_none bb cs _ HB1.out.1 HB1.out.2).mono ?_; rintro e w2 ⟨rfl, he⟩; obtain rfl := he.symm; clear he) | (go_at_call 67; refine (holdPackets_none bb cs _ HB1.out.1 HB1.out.2).mono ?_; rintro e w2 ⟨rfl, he⟩; obtain rfl := he.symm; clear he) | (go_at_call 68; refine (holdFlights_none bb cs _ HB1.out.1 HB1.out.2).mono ?_; rintro e w2 ⟨rfl, he⟩; obtain rfl := he.symm; clear he) | (go_at_call 69; refine (holdOuts_none bb cs _ HB1.out.1 HB1.out.2).mono ?_; rintro e w2 ⟨rfl, he⟩; obtain rfl := he.symm; clear he) | (go_at_call 70; refine (holdInputs_none bb cs _ HB1.out.1 HB1.out.2).mono ?_; rintro e w2 ⟨rfl, he⟩; obtain rfl := he.symm; clear he) | (go_at_call 71; refine (holdTolds_none bb cs _ HB1.out.1 HB1.out.2).mono ?_; rintro e w2 ⟨rfl, he⟩; obtain rfl := he.symm; clear he) | (go_at_call 72; refine (holdSessions_none bb cs _ HB1.out.1 HB1.out.2).mono ?_; rintro e w2 ⟨rfl, he⟩; obtain rfl := he.symm; clear he) | (go_at_call 73; refine (holdShapes_none bb cs _ HB1.out.1 HB1.out.2).mono ?_; rintro e w2 ⟨rfl, he⟩; obtain rfl := he.symm; clear he) | (go_at_call 74; refine (holdSteps_none bb cs _ HB1.out.1 HB1.out.2).mono ?_; rintro e w2 ⟨rfl, he⟩; obtain rfl := he.symm; clear he))
  go_ret
  exact ⟨rfl, HL.out⟩
theorem mod_is (n m : Int) (h0 : 0 < m) (h1 : m ≤ 4294967296) : (wrap64 (n.tmod m + m)).tmod m = n % m := by
 have a := Int.tmod_lt_of_pos n h0
 have b := Int.lt_tmod_of_pos n h0
 have c := Int.mul_tdiv_add_tmod n m
 have d : wrap64 (n.tmod m + m) = n.tmod m + m := by unfold wrap64; omega
 rw [d, Int.tmod_eq_emod_of_nonneg (by omega), Int.add_emod_right]
 conv => rhs; rw [← c]
 rw [Int.add_comm, Int.add_mul_emod_self_left]
theorem rmod_small (n : Int) (w : World) :
    Calls Tryz.prog 245 #[.int .i64 n, .int .i64 65536] w fun e w' => e = .returned (.int .i64 (n % 65536)) ∧ w' = w := by
  go_enter Tryz.func245, Tryz.ntmps245
  go_wp2
  go_ret
  exact ⟨by rw [← mod_is n 65536 (by decide) (by decide)]; rfl, rfl⟩
theorem rnumber_any (n : Int) (w : World) :
    Calls Tryz.prog 163 #[.int .i64 n] w fun e w' => e = .returned (.slice (some ⟨w.heap.size, 0, none⟩) 2 2) ∧ w' = w.alloc (.cells #[.int .u8 (n / 256 % 256), .int .u8 (n % 256)] 5) := by
  have M0 : Hid (Calls Tryz.prog 245 #[.int .i64 n, .int .i64 65536] w fun e w' => e = .returned (.int .i64 (n % 65536)) ∧ w' = w) := rmod_small n w
  have b0 : 0 ≤ n % 65536 := by omega
  have b1 : n % 65536 < 65536 := by omega
  have e1 : Hid (n % 65536 / 256 % 256 = n / 256 % 256) := show n % 65536 / 256 % 256 = n / 256 % 256 by omega
  have e2 : Hid (n % 65536 % 256 % 256 = n % 256) := show n % 65536 % 256 % 256 = n % 256 by omega
  go_enter Tryz.func163, Tryz.ntmps163
  go_wp2_with (go_at_call 245; refine M0.out.mono ?_; rintro e w2 ⟨rfl, he⟩; obtain rfl := he.symm; clear he)
  go_ret
  exact ⟨rfl, by rw [show n % 65536 / 256 = n / 256 % 256 by omega]⟩
theorem rnumber_made (n : Int) (w : World) :
    Calls Tryz.prog 163 #[.int .i64 n] w fun e w' => Made w w' e 2 (cellsOf (numZ n) 2) := by
  refine (rnumber_any n w).mono ?_
  rintro e w' ⟨rfl, rfl⟩
  refine ⟨w.heap.size, 2, rfl, ⟨rfl, .inr ⟨w.heap.size, 2, #[.int .u8 (n / 256 % 256), .int .u8 (n % 256)], rfl, Nat.le_refl _, heap_alloc_new w _, Nat.le_refl _, by decide, rfl, rfl⟩⟩, (Below.refl _ _).alloc (Nat.le_refl _) _⟩
theorem rdata_ok (a : Option Addr) (l k : Nat) (z : Nat → Int) (w : World) (h : Came w a l k z) (hl : l ≤ 65535) :
    Calls Tryz.prog 246 #[.slice a l k] w fun e w' => ∃ g cp, e = .returned (.tuple #[.slice (some ⟨g, 0, none⟩) (2 + l) cp, .int .i64 0]) ∧ Came w' (some ⟨g, 0, none⟩) (2 + l) cp (cat (numZ l) 2 z) ∧ Below w.heap.size w w' := by
  obtain ⟨i0, hi, hz0, hz1, hz2⟩ := info_parts Tryz.info5
  have P0 : Hid (Calls Tryz.prog 163 #[.int .i64 l] w fun e w' => ∃ g cp, e = .returned (.slice (some ⟨g, 0, none⟩) 2 cp) ∧ w'.ownsRow w.heap.size 5 1 (.slice (some ⟨g, 0, none⟩) 2 cp) 2 (cellsOf (numZ l) 2) ∧ Below w.heap.size w w') := by
    refine (rnumber_made l w).mono ?_
    rintro e w' ⟨g, cp, rfl, ho, hb⟩
    exact ⟨g, cp, rfl, ho, hb⟩
  have h1 : ¬ (65535 : Int) < l := by omega
  have HC : Hid (∀ w', Below w.heap.size w w' → Came w' a l k z) := fun w' hb => came_below (B := 0) h hb
  have HN : Hid (a = none → l = 0 ∧ k = 0) := by rintro rfl; exact came_nil h
  have HZ : Hid (∀ i, 0 ≤ z i ∧ z i ≤ 255) := h.2.1
  clear h
  cases a with
  | none =>
    obtain ⟨rfl, rfl⟩ := HN.out rfl
    go_enter Tryz.func246, Tryz.ntmps246
    go_wp2_with (first | (go_at_call 163; refine P0.out.mono ?_; rintro e w1 ⟨g, cp, rfl, ho, hb⟩; have HO : Hid (w1.ownsRow w.heap.size 5 1 (.slice (some ⟨g, 0, none⟩) 2 cp) 2 (cellsOf (numZ (0 : Nat)) 2)) := ho; have HB : Hid (Below w.heap.size w w1) := hb; clear ho hb) | (at_builtin; refine wpList_append_own_none rfl (.tmp 9) (.tmp 10) 22 rfl w.heap.size 5 i0 1 Tryz.underlying22 hi _ 2 (cellsOf (numZ (0 : Nat)) 2) rfl HO.out rfl ?_))
    go_ret2
    refine ⟨g, cp, rfl, ?_, HB.out⟩
    refine came_own (z' := z) HO.out ?_ (cat_bd (numZ_bd _) HZ.out)
    exact cellsOf_congr _ _ _ fun i hi => by simp [cat, hi]
  | some ad =>
    go_enter Tryz.func246, Tryz.ntmps246
    go_wp2_with (first | (go_at_call 163; refine P0.out.mono ?_; rintro e w1 ⟨g, cp, rfl, ho, hb⟩; have HO : Hid (w1.ownsRow w.heap.size 5 1 (.slice (some ⟨g, 0, none⟩) 2 cp) 2 (cellsOf (numZ l) 2)) := ho; have HB : Hid (Below w.heap.size w w1) := hb; clear ho hb) | (at_builtin; refine wpList_append_own _ rfl (.tmp 9) (.tmp 10) 22 rfl w.heap.size 5 i0 (.int .u8 0) 1 1 Tryz.underlying22 hi hz0 hz1 hz2 rfl (by decide) _ _ _ rfl HO.out ad l k (cellsOf z l) rfl ?c0 ?c1 ?c2 ?c3 ?c4 ?c5 ?_))
    case c0 => simp [cellsOf]
    case c1 => exact came_cells (HC.out _ HB.out)
    case c2 => exact fun u hu => cellsOf_one z l u hu
    case c3 => unfold maxLen; omega
    case c4 => omega
    case c5 => exact HB.out.size
    intro v3 w3 hown3 hgrow3 hnil3
    have hb3 := HB.out.grown hgrow3 HB.out.size (fun q hq => (HO.out.lt q hq).1)
    have hex : ∃ g cp, v3 = .slice (some ⟨g, 0, none⟩) (2 + l) cp := by
      obtain ⟨_, h | ⟨g, cp, cur, hv, _⟩⟩ := hown3
      · exact absurd h.1 (by simpa using hnil3)
      · exact ⟨g, cp, hv⟩
    obtain ⟨g3, cp3, rfl⟩ := hex
    have HS : Hid (Came w3 (some ⟨g3, 0, none⟩) (2 + l) cp3 (cat (numZ l) 2 z) ∧ Below w.heap.size w w3) := ⟨came_own (z' := z) hown3 (cells_cat (numZ l) z 2 l) (cat_bd (numZ_bd _) HZ.out), hb3⟩
    clear hown3 hgrow3 hnil3 hb3
    go_wp2
    go_ret2
    exact ⟨g3, cp3, rfl, HS.out.1, HS.out.2⟩
theorem chkF_rm (s : ByteArray) (b k : Nat) : Rm.chkF s b k = chkF s b k := by
 induction b generalizing k with
 | zero => rfl
 | succ n ih => simp only [Rm.chkF, chkF, ih]
theorem chk_rm (s : ByteArray) : Rm.chk s = chk s := by simp only [Rm.chk, chk, chkF_rm]
theorem words_ok (s : ByteArray) (w : World) (hc : (chk s).2 = 0) (hs : s.size ≤ 65535) :
    Calls Tryz.prog 244 #[.string s] w fun e w' => ∃ g cp, e = .returned (.tuple #[.slice (some ⟨g, 0, none⟩) (2 + s.size) cp, .int .i64 0]) ∧ w'.ownsRow w.heap.size 5 1 (.slice (some ⟨g, 0, none⟩) (2 + s.size) cp) (2 + s.size) (cellsOf (numZ s.size) 2 ++ Lib.strCells s) ∧ Below w.heap.size w w' := by
  obtain ⟨i0, hi, hz0, hz1, hz2⟩ := info_parts Tryz.info5
  obtain ⟨c, q, hcq⟩ : ∃ c q, chk s = (c, q) := ⟨_, _, rfl⟩
  have K0 : Hid (Calls Tryz.prog 266 #[.string s] w fun e w' => e = .returned (.tuple #[.int .i64 c, .int .i64 0]) ∧ w' = w) := by
    have h := Rm.ref_any s w
    rw [chk_rm, hcq] at h
    rw [hcq] at hc
    have hq : q = 0 := hc
    subst hq
    exact h
  have P0 : Hid (Calls Tryz.prog 163 #[.int .i64 s.size] w fun e w' => Made w w' e 2 (cellsOf (numZ s.size) 2)) := rnumber_made s.size w
  clear hc hcq
  go_enter Tryz.func244, Tryz.ntmps244
  go_wp2_with (first | (go_at_call 266; refine K0.out.mono ?_; rintro e w' ⟨rfl, he⟩; obtain rfl := he.symm))
  go_must (go_at_call 163)
  refine P0.out.mono ?_
  rintro e w2 ⟨g, cp, rfl, ho, hb2⟩
  have HO : Hid (w2.ownsRow w.heap.size 5 1 (.slice (some ⟨g, 0, none⟩) 2 cp) 2 (cellsOf (numZ s.size) 2)) := ho
  have HB : Hid (Below w.heap.size w w2) := hb2
  clear ho hb2
  go_wp2_with (at_builtin; refine Lib.wpList_append_own_string _ rfl (.tmp 16) (.tmp 17) 22 9 rfl w.heap.size 5 i0 Tryz.underlying22 Tryz.underlying9 hi hz0 hz1 hz2 _ _ _ rfl HO.out s rfl ?d1 ?d2 ?d3 ?_)
  case d1 => unfold maxLen; omega
  case d2 => omega
  case d3 => exact HB.out.size
  intro v3 w3 hown3 hgrow3 hnil3
  have hb3 := HB.out.grown hgrow3 HB.out.size (fun q hq => (HO.out.lt q hq).1)
  have hex : ∃ g cp, v3 = .slice (some ⟨g, 0, none⟩) (2 + s.size) cp := by
    obtain ⟨_, h | ⟨g, cp, cur, hv, _⟩⟩ := hown3
    · exact absurd h.1 (by simpa using hnil3)
    · exact ⟨g, cp, hv⟩
  obtain ⟨g3, cp3, rfl⟩ := hex
  have HS : Hid (w3.ownsRow w.heap.size 5 1 (.slice (some ⟨g3, 0, none⟩) (2 + s.size) cp3) (2 + s.size) (cellsOf (numZ s.size) 2 ++ Lib.strCells s) ∧ Below w.heap.size w w3) := ⟨hown3, hb3⟩
  clear hown3 hgrow3 hnil3 hb3
  go_wp2
  go_ret2
  exact ⟨g3, cp3, rfl, HS.out.1, HS.out.2⟩
theorem rgroups_low (n : Int) (hn : n < 0) (m : Int) (hm : m = 0) (w : World) :
    Calls Tryz.prog 101 #[.int .i64 n] w fun e w' => Made w w' e (kn m) (cellsOf (glZ m) (kn m)) := by
  obtain ⟨i0, hi, hz0, hz1, hz2⟩ := info_parts Tryz.info5
  have hkb := kn_bd m
  have hm0 : 0 ≤ m := by omega
  have hm1 : m ≤ 268435455 := by omega
  have HM : Hid (m = 0) := hm
  have n1 : ¬ 0 ≤ n := by omega
  clear hm
  go_enter Tryz.func101, Tryz.ntmps101
  go_wp2
  go_loopw [0, 3] (fun n v wr => ∃ j : Nat, j < kn m ∧ n = .int .i64 (qn m j) ∧ wr.ownsRow w.heap.size 5 1 v j (cellsOf (glZ m) j) ∧ Below w.heap.size w wr) (fun n _ _ => (intOf n).toNat)
  case atStart => exact ⟨0, by omega, by rw [show qn m 0 = m from rfl, HM.out], World.ownsRow_nil _ _ _ _, Below.refl _ _⟩
  case round =>
    obtain ⟨j, hj, rfl, ho, hbel⟩ := hrel
    have hq := qn_more m hm0 hm1 j hj
    have HO : Hid (wr.ownsRow w.heap.size 5 1 u3 j (cellsOf (glZ m) j)) := ho
    have HB : Hid (Below w.heap.size w wr) := hbel
    have HG : Hid (glZ m j = if j + 1 < kn m then qn m j % 128 + 128 else qn m j) := by
      show glZ m j = _
      unfold glZ
      split
      · rfl
      · rw [if_pos (by omega)]
    have HQ : Hid (qn m (j + 1) = qn m j / 128) := rfl
    obtain ⟨x, hx⟩ : ∃ x, qn m j = x := ⟨_, rfl⟩
    rw [hx] at hq ⊢
    have HX : Hid (qn m j = x) := hx
    clear ho hbel hx
    obtain ⟨hq0, hq1, hq2⟩ := hq
    by_cases hlt : 127 < x
    · have hj1 : j + 1 < kn m := hq2.1 hlt
      have hw : (x % 128 + 128) % 256 = x % 128 + 128 := by omega
      have hw2 : x % 128 % 256 = x % 128 := by omega
      have hge : 128 ≤ x := by omega
      clear hq2
      go_wp2_with (at_builtin; refine wpList_append_own _ rfl (.tmp 10) (.tmp 15) 22 rfl w.heap.size 5 i0 (.int .u8 0) 1 1 Tryz.underlying22 hi hz0 hz1 hz2 rfl (by decide) _ _ _ rfl (HO.out.alloc _) ⟨_, 0, none⟩ 1 1 [.int .u8 (x % 128 + 128)] rfl rfl ?d1 ?d2 ?d3 ?d4 ?d5 ?_)
      case d1 => exact cell_one_new _ _ _
      case d2 => intro u hu; simp at hu; subst hu; rfl
      case d3 => unfold maxLen; omega
      case d4 => omega
      case d5 => have := HB.out.size; simp; omega
      intro v2 w2 hown2 hgrow2 hnil2
      have hb2 := (HB.out.alloc HB.out.size _).grown hgrow2 (by have := HB.out.size; simp; omega) (by intro q hq; exact (HO.out.lt _ hq).1)
      have HS2 : Hid (w2.ownsRow w.heap.size 5 1 v2 (j + 1) (cellsOf (glZ m) (j + 1)) ∧ Below w.heap.size w w2) := ⟨by rw [cellsOf_succ, HG.out, if_pos hj1, HX.out]; exact hown2, hb2⟩
      clear hown2 hgrow2 hnil2 hb2
      go_wp2
      go_roundw
      case rel => exact ⟨j + 1, hj1, by rw [HQ.out, HX.out], HS2.out.1, HS2.out.2⟩
      case measure => simp [intOf]; omega
    · have hj1 : j + 1 = kn m := by omega
      have hw : x % 256 = x := by omega
      have HJ : Hid (j + 1 = kn m) := hj1
      have hge : ¬ 128 ≤ x := by omega
      clear hq2 hj1
      go_wp2_with (at_builtin; refine wpList_append_own _ rfl (.tmp 19) (.tmp 22) 22 rfl w.heap.size 5 i0 (.int .u8 0) 1 1 Tryz.underlying22 hi hz0 hz1 hz2 rfl (by decide) _ _ _ rfl (HO.out.alloc _) ⟨_, 0, none⟩ 1 1 [.int .u8 x] rfl rfl ?e1 ?e2 ?e3 ?e4 ?e5 ?_)
      case e2 => first | rfl | (intro u hu; simp at hu; subst hu; rfl)
      case e3 => unfold maxLen; omega
      case e4 => omega
      case e5 => have := HB.out.size; first | omega | (simp; omega)
      intro v2 w2 hown2 hgrow2 hnil2
      have hb2 := (HB.out.alloc HB.out.size _).grown hgrow2 (by have := HB.out.size; simp; omega) (by intro q hq; exact (HO.out.lt _ hq).1)
      have hex : ∃ g cp, v2 = .slice (some ⟨g, 0, none⟩) (j + 1) cp := by
        obtain ⟨_, h | ⟨g, cp, cur, hv, _⟩⟩ := hown2
        · exact absurd h.1 (by simpa using hnil2)
        · exact ⟨g, cp, hv⟩
      obtain ⟨g2, cp2, rfl⟩ := hex
      have hown3 : w2.ownsRow w.heap.size 5 1 (.slice (some ⟨g2, 0, none⟩) (j + 1) cp2) (j + 1) (cellsOf (glZ m) (j + 1)) := by
        rw [cellsOf_succ, HG.out, if_neg (by have := HJ.out; omega), HX.out]
        exact hown2
      rw [HJ.out] at hown3
      have HS : Hid (w2.ownsRow w.heap.size 5 1 (.slice (some ⟨g2, 0, none⟩) (kn m) cp2) (kn m) (cellsOf (glZ m) (kn m)) ∧ Below w.heap.size w w2) := ⟨hown3, hb2⟩
      clear hown2 hgrow2 hnil2 hb2 hown3
      rw [HJ.out]
      go_wp2
      go_ret
      exact ⟨g2, cp2, rfl, HS.out.1, HS.out.2⟩
theorem rgroups_high (n : Int) (hn : 268435455 < n) (m : Int) (hm : m = 268435455) (w : World) :
    Calls Tryz.prog 101 #[.int .i64 n] w fun e w' => Made w w' e (kn m) (cellsOf (glZ m) (kn m)) := by
  obtain ⟨i0, hi, hz0, hz1, hz2⟩ := info_parts Tryz.info5
  have hkb := kn_bd m
  have hm0 : 0 ≤ m := by omega
  have hm1 : m ≤ 268435455 := by omega
  have HM : Hid (m = 268435455) := hm
  have n1 : ¬ n < 0 := by omega
  have n5 : ¬ n ≤ 268435455 := by omega
  clear hm
  go_enter Tryz.func101, Tryz.ntmps101
  go_wp2
  go_loopw [0, 3] (fun n v wr => ∃ j : Nat, j < kn m ∧ n = .int .i64 (qn m j) ∧ wr.ownsRow w.heap.size 5 1 v j (cellsOf (glZ m) j) ∧ Below w.heap.size w wr) (fun n _ _ => (intOf n).toNat)
  case atStart => exact ⟨0, by omega, by rw [show qn m 0 = m from rfl, HM.out], World.ownsRow_nil _ _ _ _, Below.refl _ _⟩
  case round =>
    obtain ⟨j, hj, rfl, ho, hbel⟩ := hrel
    have hq := qn_more m hm0 hm1 j hj
    have HO : Hid (wr.ownsRow w.heap.size 5 1 u3 j (cellsOf (glZ m) j)) := ho
    have HB : Hid (Below w.heap.size w wr) := hbel
    have HG : Hid (glZ m j = if j + 1 < kn m then qn m j % 128 + 128 else qn m j) := by
      show glZ m j = _
      unfold glZ
      split
      · rfl
      · rw [if_pos (by omega)]
    have HQ : Hid (qn m (j + 1) = qn m j / 128) := rfl
    obtain ⟨x, hx⟩ : ∃ x, qn m j = x := ⟨_, rfl⟩
    rw [hx] at hq ⊢
    have HX : Hid (qn m j = x) := hx
    clear ho hbel hx
    obtain ⟨hq0, hq1, hq2⟩ := hq
    by_cases hlt : 127 < x
    · have hj1 : j + 1 < kn m := hq2.1 hlt
      have hw : (x % 128 + 128) % 256 = x % 128 + 128 := by omega
      have hw2 : x % 128 % 256 = x % 128 := by omega
      have hge : 128 ≤ x := by omega
      clear hq2
      go_wp2_with (at_builtin; refine wpList_append_own _ rfl (.tmp 10) (.tmp 15) 22 rfl w.heap.size 5 i0 (.int .u8 0) 1 1 Tryz.underlying22 hi hz0 hz1 hz2 rfl (by decide) _ _ _ rfl (HO.out.alloc _) ⟨_, 0, none⟩ 1 1 [.int .u8 (x % 128 + 128)] rfl rfl ?d1 ?d2 ?d3 ?d4 ?d5 ?_)
      case d1 => exact cell_one_new _ _ _
      case d2 => intro u hu; simp at hu; subst hu; rfl
      case d3 => unfold maxLen; omega
      case d4 => omega
      case d5 => have := HB.out.size; simp; omega
      intro v2 w2 hown2 hgrow2 hnil2
      have hb2 := (HB.out.alloc HB.out.size _).grown hgrow2 (by have := HB.out.size; simp; omega) (by intro q hq; exact (HO.out.lt _ hq).1)
      have HS2 : Hid (w2.ownsRow w.heap.size 5 1 v2 (j + 1) (cellsOf (glZ m) (j + 1)) ∧ Below w.heap.size w w2) := ⟨by rw [cellsOf_succ, HG.out, if_pos hj1, HX.out]; exact hown2, hb2⟩
      clear hown2 hgrow2 hnil2 hb2
      go_wp2
      go_roundw
      case rel => exact ⟨j + 1, hj1, by rw [HQ.out, HX.out], HS2.out.1, HS2.out.2⟩
      case measure => simp [intOf]; omega
    · have hj1 : j + 1 = kn m := by omega
      have hw : x % 256 = x := by omega
      have HJ : Hid (j + 1 = kn m) := hj1
      have hge : ¬ 128 ≤ x := by omega
      clear hq2 hj1
      go_wp2_with (at_builtin; refine wpList_append_own _ rfl (.tmp 19) (.tmp 22) 22 rfl w.heap.size 5 i0 (.int .u8 0) 1 1 Tryz.underlying22 hi hz0 hz1 hz2 rfl (by decide) _ _ _ rfl (HO.out.alloc _) ⟨_, 0, none⟩ 1 1 [.int .u8 x] rfl rfl ?e1 ?e2 ?e3 ?e4 ?e5 ?_)
      case e2 => first | rfl | (intro u hu; simp at hu; subst hu; rfl)
      case e3 => unfold maxLen; omega
      case e4 => omega
      case e5 => have := HB.out.size; first | omega | (simp; omega)
      intro v2 w2 hown2 hgrow2 hnil2
      have hb2 := (HB.out.alloc HB.out.size _).grown hgrow2 (by have := HB.out.size; simp; omega) (by intro q hq; exact (HO.out.lt _ hq).1)
      have hex : ∃ g cp, v2 = .slice (some ⟨g, 0, none⟩) (j + 1) cp := by
        obtain ⟨_, h | ⟨g, cp, cur, hv, _⟩⟩ := hown2
        · exact absurd h.1 (by simpa using hnil2)
        · exact ⟨g, cp, hv⟩
      obtain ⟨g2, cp2, rfl⟩ := hex
      have hown3 : w2.ownsRow w.heap.size 5 1 (.slice (some ⟨g2, 0, none⟩) (j + 1) cp2) (j + 1) (cellsOf (glZ m) (j + 1)) := by
        rw [cellsOf_succ, HG.out, if_neg (by have := HJ.out; omega), HX.out]
        exact hown2
      rw [HJ.out] at hown3
      have HS : Hid (w2.ownsRow w.heap.size 5 1 (.slice (some ⟨g2, 0, none⟩) (kn m) cp2) (kn m) (cellsOf (glZ m) (kn m)) ∧ Below w.heap.size w w2) := ⟨hown3, hb2⟩
      clear hown2 hgrow2 hnil2 hb2 hown3
      rw [HJ.out]
      go_wp2
      go_ret
      exact ⟨g2, cp2, rfl, HS.out.1, HS.out.2⟩
theorem rgroups_in (n : Int) (hn : 0 ≤ n) (hn' : n ≤ 268435455) (m : Int) (hm : m = n) (w : World) :
    Calls Tryz.prog 101 #[.int .i64 n] w fun e w' => Made w w' e (kn m) (cellsOf (glZ m) (kn m)) := by
  obtain ⟨i0, hi, hz0, hz1, hz2⟩ := info_parts Tryz.info5
  have hkb := kn_bd m
  have hm0 : 0 ≤ m := by omega
  have hm1 : m ≤ 268435455 := by omega
  have HM : Hid (m = n) := hm
  have n1 : ¬ n < 0 := by omega
  have n5 : ¬ 268435455 < n := by omega
  clear hm
  go_enter Tryz.func101, Tryz.ntmps101
  go_wp2
  go_loopw [0, 3] (fun n v wr => ∃ j : Nat, j < kn m ∧ n = .int .i64 (qn m j) ∧ wr.ownsRow w.heap.size 5 1 v j (cellsOf (glZ m) j) ∧ Below w.heap.size w wr) (fun n _ _ => (intOf n).toNat)
  case atStart => exact ⟨0, by omega, by rw [show qn m 0 = m from rfl, HM.out], World.ownsRow_nil _ _ _ _, Below.refl _ _⟩
  case round =>
    obtain ⟨j, hj, rfl, ho, hbel⟩ := hrel
    have hq := qn_more m hm0 hm1 j hj
    have HO : Hid (wr.ownsRow w.heap.size 5 1 u3 j (cellsOf (glZ m) j)) := ho
    have HB : Hid (Below w.heap.size w wr) := hbel
    have HG : Hid (glZ m j = if j + 1 < kn m then qn m j % 128 + 128 else qn m j) := by
      show glZ m j = _
      unfold glZ
      split
      · rfl
      · rw [if_pos (by omega)]
    have HQ : Hid (qn m (j + 1) = qn m j / 128) := rfl
    obtain ⟨x, hx⟩ : ∃ x, qn m j = x := ⟨_, rfl⟩
    rw [hx] at hq ⊢
    have HX : Hid (qn m j = x) := hx
    clear ho hbel hx
    obtain ⟨hq0, hq1, hq2⟩ := hq
    by_cases hlt : 127 < x
    · have hj1 : j + 1 < kn m := hq2.1 hlt
      have hw : (x % 128 + 128) % 256 = x % 128 + 128 := by omega
      have hw2 : x % 128 % 256 = x % 128 := by omega
      have hge : 128 ≤ x := by omega
      clear hq2
      go_wp2_with (at_builtin; refine wpList_append_own _ rfl (.tmp 10) (.tmp 15) 22 rfl w.heap.size 5 i0 (.int .u8 0) 1 1 Tryz.underlying22 hi hz0 hz1 hz2 rfl (by decide) _ _ _ rfl (HO.out.alloc _) ⟨_, 0, none⟩ 1 1 [.int .u8 (x % 128 + 128)] rfl rfl ?d1 ?d2 ?d3 ?d4 ?d5 ?_)
      case d1 => exact cell_one_new _ _ _
      case d2 => intro u hu; simp at hu; subst hu; rfl
      case d3 => unfold maxLen; omega
      case d4 => omega
      case d5 => have := HB.out.size; simp; omega
      intro v2 w2 hown2 hgrow2 hnil2
      have hb2 := (HB.out.alloc HB.out.size _).grown hgrow2 (by have := HB.out.size; simp; omega) (by intro q hq; exact (HO.out.lt _ hq).1)
      have HS2 : Hid (w2.ownsRow w.heap.size 5 1 v2 (j + 1) (cellsOf (glZ m) (j + 1)) ∧ Below w.heap.size w w2) := ⟨by rw [cellsOf_succ, HG.out, if_pos hj1, HX.out]; exact hown2, hb2⟩
      clear hown2 hgrow2 hnil2 hb2
      go_wp2
      go_roundw
      case rel => exact ⟨j + 1, hj1, by rw [HQ.out, HX.out], HS2.out.1, HS2.out.2⟩
      case measure => simp [intOf]; omega
    · have hj1 : j + 1 = kn m := by omega
      have hw : x % 256 = x := by omega
      have HJ : Hid (j + 1 = kn m) := hj1
      have hge : ¬ 128 ≤ x := by omega
      clear hq2 hj1
      go_wp2_with (at_builtin; refine wpList_append_own _ rfl (.tmp 19) (.tmp 22) 22 rfl w.heap.size 5 i0 (.int .u8 0) 1 1 Tryz.underlying22 hi hz0 hz1 hz2 rfl (by decide) _ _ _ rfl (HO.out.alloc _) ⟨_, 0, none⟩ 1 1 [.int .u8 x] rfl rfl ?e1 ?e2 ?e3 ?e4 ?e5 ?_)
      case e2 => first | rfl | (intro u hu; simp at hu; subst hu; rfl)
      case e3 => unfold maxLen; omega
      case e4 => omega
      case e5 => have := HB.out.size; first | omega | (simp; omega)
      intro v2 w2 hown2 hgrow2 hnil2
      have hb2 := (HB.out.alloc HB.out.size _).grown hgrow2 (by have := HB.out.size; simp; omega) (by intro q hq; exact (HO.out.lt _ hq).1)
      have hex : ∃ g cp, v2 = .slice (some ⟨g, 0, none⟩) (j + 1) cp := by
        obtain ⟨_, h | ⟨g, cp, cur, hv, _⟩⟩ := hown2
        · exact absurd h.1 (by simpa using hnil2)
        · exact ⟨g, cp, hv⟩
      obtain ⟨g2, cp2, rfl⟩ := hex
      have hown3 : w2.ownsRow w.heap.size 5 1 (.slice (some ⟨g2, 0, none⟩) (j + 1) cp2) (j + 1) (cellsOf (glZ m) (j + 1)) := by
        rw [cellsOf_succ, HG.out, if_neg (by have := HJ.out; omega), HX.out]
        exact hown2
      rw [HJ.out] at hown3
      have HS : Hid (w2.ownsRow w.heap.size 5 1 (.slice (some ⟨g2, 0, none⟩) (kn m) cp2) (kn m) (cellsOf (glZ m) (kn m)) ∧ Below w.heap.size w w2) := ⟨hown3, hb2⟩
      clear hown2 hgrow2 hnil2 hb2 hown3
      rw [HJ.out]
      go_wp2
      go_ret
      exact ⟨g2, cp2, rfl, HS.out.1, HS.out.2⟩
end Go.Proofs.YtphofgnehdlafaaGreatDoor.Bk
