import Derived.Test.YtkjeneklkdekoaaGreatDoorBtwo
import Derived.Test.YtkjeneklkdekoaaGreatDoorBfive
import Derived.Deep.RegionWith
namespace Go.Proofs.YtkjeneklkdekoaaGreatDoor
open Go Go.RowKit
set_option linter.unusedSimpArgs false
set_option linter.unusedVariables false

/-- A text's bytes. -/
def sZ (s : ByteArray) : Nat → Int := fun i => atB s i
theorem sZ_bd (s : ByteArray) (i : Nat) : 0 ≤ sZ s i ∧ sZ s i ≤ 255 := by
  have := atB_lt s i
  unfold sZ
  omega
theorem strCells_sZ (s : ByteArray) : Lib.strCells s = cellsOf (sZ s) s.size := by
  apply List.ext_getElem
  · rw [Lib.strCells_length, cellsOf_length]
  · intro i h1 h2
    rw [cellsOf_length] at h2
    simp only [Lib.strCells, cellsOf, List.getElem_map, List.getElem_range, sZ]
    rw [atB_in s i h2]
    rfl
theorem strZ_congr (z z' : Nat → Int) (n : Nat) (h : ∀ i, i < n → z i = z' i) : strZ z n = strZ z' n := by
  unfold strZ
  congr 1
  apply List.map_congr_left
  intro i hi
  exact h i (List.mem_range.1 hi)
theorem strZ_back (s : ByteArray) : strZ (sZ s) s.size = s := by
  have e : (List.range s.size).map (sZ s) = s.data.toList.map fun x => (x.toNat : Int) := by
    apply List.ext_getElem
    · simp only [List.length_map, List.length_range, Array.length_toList]
      rfl
    · intro i h1 h2
      simp only [List.length_map, List.length_range] at h1
      simp only [List.getElem_map, List.getElem_range, sZ]
      rw [atB_in s i h1]
      rfl
  unfold strZ
  rw [e]
  unfold strOfNums
  rw [List.map_map]
  have q : ((fun n : Int => UInt8.ofNat n.toNat) ∘ fun x : UInt8 => (x.toNat : Int)) = id := by
    funext x
    simp
  rw [q, List.map_id]

theorem len_back (m : Int) (h0 : 0 ≤ m) (h1 : m ≤ 268435455) (zm : Nat → Int) (lm : Nat) : lenZ (kn m + lm) (cat (glZ m) (kn m) zm) = (m, ((kn m : Nat) : Int), 0) := by
  unfold lenZ
  by_cases a : m < 128
  · have hk : kn m = 1 := by simp [kn, a]
    have e0 : cat (glZ m) (kn m) zm 0 = m := by simp [cat, glZ, hk, qn]
    rw [e0, hk, lenX_done0 (by omega) a]
    simp
    omega
  by_cases b : m < 16384
  · have hk : kn m = 2 := by simp [kn, a, b]
    have e0 : cat (glZ m) (kn m) zm 0 = m % 128 + 128 := by simp [cat, glZ, hk, qn]
    have e1 : cat (glZ m) (kn m) zm 1 = m / 128 := by simp [cat, glZ, hk, qn]
    rw [e0, e1, hk, lenX_done1 (by omega) (by omega) (by omega) (by omega)]
    simp
    omega
  by_cases c : m < 2097152
  · have hk : kn m = 3 := by simp [kn, a, b, c]
    have e0 : cat (glZ m) (kn m) zm 0 = m % 128 + 128 := by simp [cat, glZ, hk, qn]
    have e1 : cat (glZ m) (kn m) zm 1 = m / 128 % 128 + 128 := by simp [cat, glZ, hk, qn]
    have e2 : cat (glZ m) (kn m) zm 2 = m / 128 / 128 := by simp [cat, glZ, hk, qn]
    rw [e0, e1, e2, hk, lenX_done2 (by omega) (by omega) (by omega) (by omega) (by omega) (by omega)]
    simp
    omega
  · have hk : kn m = 4 := by simp [kn, a, b, c]
    have e0 : cat (glZ m) (kn m) zm 0 = m % 128 + 128 := by simp [cat, glZ, hk, qn]
    have e1 : cat (glZ m) (kn m) zm 1 = m / 128 % 128 + 128 := by simp [cat, glZ, hk, qn]
    have e2 : cat (glZ m) (kn m) zm 2 = m / 128 / 128 % 128 + 128 := by simp [cat, glZ, hk, qn]
    have e3 : cat (glZ m) (kn m) zm 3 = m / 128 / 128 / 128 := by simp [cat, glZ, hk, qn]
    rw [e0, e1, e2, e3, hk, lenX_done3 (by omega) (by omega) (by omega) (by omega) (by omega) (by omega) (by omega) (by omega)]
    simp
    omega

theorem came_congr {w : World} {a : Option Addr} {n k : Nat} {z z' : Nat → Int} (h : Came w a n k z) (he : ∀ i, i < n → z i = z' i) (hz : ∀ i, 0 ≤ z' i ∧ z' i ≤ 255) : Came w a n k z' := by
  obtain ⟨h1, _, h3 | ⟨ad, rfl, hc⟩⟩ := h
  · exact ⟨h1, hz, .inl h3⟩
  · exact ⟨h1, hz, .inr ⟨ad, rfl, fun i hi => by rw [← he i hi]; exact hc i hi⟩⟩

/-- A reader of these bytes, nothing taken yet. -/
def Rd (w : World) (rb g n cp : Nat) (z : Nat → Int) : Prop := RdAt w rb (.slice (some ⟨g, 0, none⟩) n cp) 0 0 0 ∧ Own w g n z ∧ g ≠ rb ∧ n ≤ cp
theorem Rd.below {w w' : World} {rb g n cp : Nat} {z : Nat → Int} (h : Rd w rb g n cp z) (hb : Below w.heap.size w w') : Rd w' rb g n cp z := ⟨h.1.kept hb, h.2.1.below hb, h.2.2⟩
theorem Rd.grown {w w' : World} {rb g n cp r : Nat} {z : Nat → Int} (h : Rd w rb g n cp z) (hg : w.grownBy w' (some r)) (h1 : rb ≠ r) (h2 : g ≠ r) : Rd w' rb g n cp z := ⟨h.1.grown hg h1, h.2.1.grown hg h2, h.2.2⟩
theorem Rd.lt {w : World} {rb g n cp : Nat} {z : Nat → Int} (h : Rd w rb g n cp z) : rb < w.heap.size := lt_of_block h.1

theorem put_number (n : Int) (w : World) : Calls Tryz.prog 17 #[.slice none 0 0, .int .i64 n] w fun e w' => ∃ g cp, e = .returned (.slice (some ⟨g, 0, none⟩) 2 cp) ∧ Came w' (some ⟨g, 0, none⟩) 2 cp (numZ n) ∧ Below w.heap.size w w' :=
  (putNumber_any none 0 0 (lZ []) n w (nil_came _ _ (lZ_bd _ (by decide))) (by decide)).mono fun e w' h => made_z h rfl (numZ_bd n)
theorem put_long (n : Int) (w : World) : Calls Tryz.prog 18 #[.slice none 0 0, .int .i64 n] w fun e w' => ∃ g cp, e = .returned (.slice (some ⟨g, 0, none⟩) 4 cp) ∧ Came w' (some ⟨g, 0, none⟩) 4 cp (lngZ n) ∧ Below w.heap.size w w' :=
  (putLong_any none 0 0 (lZ []) n w (nil_came _ _ (lZ_bd _ (by decide))) (by decide)).mono fun e w' h => made_z h rfl (lngZ_bd n)
theorem put_length (n m : Int) (hm : (n < 0 ∧ m = 0) ∨ (268435455 < n ∧ m = 268435455) ∨ (0 ≤ n ∧ n ≤ 268435455 ∧ m = n)) (K : Nat) (hK : kn m = K) (w : World) : Calls Tryz.prog 19 #[.slice none 0 0, .int .i64 n] w fun e w' => ∃ g cp, e = .returned (.slice (some ⟨g, 0, none⟩) K cp) ∧ Came w' (some ⟨g, 0, none⟩) K cp (glZ m) ∧ Below w.heap.size w w' := by
  subst hK
  have fin : ∀ e w', Made w w' e (0 + kn m) (cellsOf (lZ []) 0 ++ cellsOf (glZ m) (kn m)) → ∃ g cp, e = .returned (.slice (some ⟨g, 0, none⟩) (kn m) cp) ∧ Came w' (some ⟨g, 0, none⟩) (kn m) cp (glZ m) ∧ Below w.heap.size w w' := by
    intro e w' h
    rw [Nat.zero_add] at h
    exact made_z h rfl (glZ_bd m (by omega) (by omega))
  rcases hm with ⟨h1, h2⟩ | ⟨h1, h2⟩ | ⟨h1, h2, rfl⟩
  · exact (putLength_low none 0 0 (lZ []) n h1 m h2 w (nil_came _ _ (lZ_bd _ (by decide))) (by decide)).mono fin
  · exact (putLength_high none 0 0 (lZ []) n h1 m h2 w (nil_came _ _ (lZ_bd _ (by decide))) (by decide)).mono fin
  · exact (putLength_in none 0 0 (lZ []) m h1 h2 w (nil_came _ _ (lZ_bd _ (by decide))) (by decide)).mono fin
theorem join_z (g n cp : Nat) (a : Option Addr) (l k : Nat) (z z' : Nat → Int) (w : World) (h0 : Came w (some ⟨g, 0, none⟩) n cp z) (h1 : Came w a l k z') (hn : 1 ≤ n) (hn' : n ≤ 400000) (hl : l ≤ 400000) :
    Calls Tryz.prog 10 #[.slice (some ⟨g, 0, none⟩) n cp, .slice a l k] w fun e w' => ∃ g' c', e = .returned (.slice (some ⟨g', 0, none⟩) (n + l) c') ∧ Came w' (some ⟨g', 0, none⟩) (n + l) c' (cat z n z') ∧ Below w.heap.size w w' := by
  refine (lbehind_any (some ⟨g, 0, none⟩) a n cp l k z z' w h0 h1 hn' hl).mono ?_
  rintro e w' ⟨a', c, rfl, ho, hb⟩
  have ho' := ho
  obtain ⟨_, h | ⟨g', cp', cur, hv, _⟩⟩ := ho'
  · omega
  · cases hv
    exact ⟨g', c, rfl, came_own (z' := z) ho (cells_cat z z' n l) (cat_bd h0.2.1 h1.2.1), hb⟩
theorem read_z (g n cp : Nat) (z : Nat → Int) (w : World) (h : Came w (some ⟨g, 0, none⟩) n cp z) (hn : n ≤ 800000) :
    Calls Tryz.prog 12 #[.slice (some ⟨g, 0, none⟩) n cp] w fun e w' => ∃ rb g' c', e = .returned (.pointer (some ⟨rb, 0, none⟩)) ∧ Rd w' rb g' n c' z ∧ w.heap.size ≤ g' ∧ w.heap.size ≤ rb ∧ Below w.heap.size w w' := by
  refine (read_some ⟨g, 0, none⟩ n cp z w h hn).mono ?_
  rintro e w' ⟨rb, g', c', rfl, r1, r2, r3, r4, r5, r6, r7⟩
  exact ⟨rb, g', c', rfl, ⟨r1, r2, r3, r4⟩, r5, r6, r7⟩

theorem rd_number (rb g cp lm : Nat) (n : Int) (zm : Nat → Int) (w : World) (h : Rd w rb g (2 + lm) cp (cat (numZ n) 2 zm)) (hl : lm ≤ 400000) :
    Calls Tryz.prog 67 #[.pointer (some ⟨rb, 0, none⟩)] w fun e w' => e = .returned (.int .i64 (n % 65536)) ∧ RdAt w' rb (.slice (some ⟨g, 0, none⟩) (2 + lm) cp) 2 0 0 ∧ w.grownBy w' (some rb) := by
  have e : cat (numZ n) 2 zm 0 * 256 + cat (numZ n) 2 zm 1 = n % 65536 := by
    simp [cat, numZ]
    omega
  have t := number_ok rb g (2 + lm) cp _ w h.1 h.2.1 h.2.2.2 (by omega) h.2.2.1 (by omega)
  rw [e] at t
  exact t
theorem rd_long (rb g cp lm : Nat) (n : Int) (zm : Nat → Int) (w : World) (h : Rd w rb g (4 + lm) cp (cat (lngZ n) 4 zm)) (hl : lm ≤ 400000) :
    Calls Tryz.prog 69 #[.pointer (some ⟨rb, 0, none⟩)] w fun e w' => e = .returned (.int .i64 (n % 4294967296)) ∧ RdAt w' rb (.slice (some ⟨g, 0, none⟩) (4 + lm) cp) 4 0 0 ∧ w.grownBy w' (some rb) := by
  have e : ((cat (lngZ n) 4 zm 0 * 256 + cat (lngZ n) 4 zm 1) * 256 + cat (lngZ n) 4 zm 2) * 256 + cat (lngZ n) 4 zm 3 = n % 4294967296 := by
    simp [cat, lngZ]
    omega
  have t := long_ok rb g (4 + lm) cp _ w h.1 h.2.1 h.2.2.2 (by omega) h.2.2.1 (by omega)
  rw [e] at t
  exact t
theorem rd_length (rb g cp lm : Nat) (m : Int) (h0 : 0 ≤ m) (h1 : m ≤ 268435455) (K : Nat) (hK : kn m = K) (zm : Nat → Int) (w : World) (h : Rd w rb g (K + lm) cp (cat (glZ m) K zm)) (hl : lm ≤ 400000) :
    Calls Tryz.prog 71 #[.pointer (some ⟨rb, 0, none⟩)] w fun e w' => e = .returned (.int .i64 m) ∧ RdAt w' rb (.slice (some ⟨g, 0, none⟩) (K + lm) cp) K 0 0 ∧ w.grownBy w' (some rb) := by
  subst hK
  have hb := kn_bd m
  exact length_ok rb g (kn m + lm) cp _ m (kn m) w h.1 h.2.1 h.2.2.2 (by omega) h.2.2.1 (len_back m h0 h1 zm lm) (by omega) (by omega)
theorem rd_data (rb g cp l lm : Nat) (zd zm : Nat → Int) (hzd : ∀ i, 0 ≤ zd i ∧ zd i ≤ 255) (w : World) (h : Rd w rb g (2 + l + lm) cp (cat (cat (numZ l) 2 zd) (2 + l) zm)) (hd : l ≤ 65535) (hl : lm ≤ 400000) :
    Calls Tryz.prog 75 #[.pointer (some ⟨rb, 0, none⟩)] w fun e w' => ∃ g' c', e = .returned (.slice (some ⟨g', 0, none⟩) l c') ∧ Came w' (some ⟨g', 0, none⟩) l c' zd ∧ RdAt w' rb (.slice (some ⟨g, 0, none⟩) (2 + l + lm) cp) ((2 + l : Nat) : Int) 0 0 ∧ w.grownBy w' (some rb) := by
  have e0 : cat (cat (numZ l) 2 zd) (2 + l) zm 0 = numZ l 0 := by
    unfold cat
    rw [if_pos (by omega), if_pos (by omega)]
  have e1 : cat (cat (numZ l) 2 zd) (2 + l) zm 1 = numZ l 1 := by
    unfold cat
    rw [if_pos (by omega), if_pos (by omega)]
  have e : cat (cat (numZ l) 2 zd) (2 + l) zm 0 * 256 + cat (cat (numZ l) 2 zd) (2 + l) zm 1 = l := by
    rw [e0, e1]
    simp [numZ]
    omega
  refine (data_ok rb g (2 + l + lm) cp l _ w h.1 h.2.1 h.2.2.2 (by omega) h.2.2.1 e (by omega)).mono ?_
  rintro e w' ⟨g', c', rfl, q1, q2, q3⟩
  refine ⟨g', c', rfl, came_congr q1 (fun i hi => ?_) hzd, q2, q3⟩
  unfold cat
  rw [if_pos (by omega), if_neg (by omega), Nat.add_sub_cancel_left]
theorem rd_text (rb g cp lm : Nat) (s : ByteArray) (zm : Nat → Int) (w : World) (h : Rd w rb g (2 + s.size + lm) cp (cat (cat (numZ s.size) 2 (sZ s)) (2 + s.size) zm)) (hs : s.size ≤ 65535) (hc : (chk s).2 = 0) (hl : lm ≤ 400000) :
    Calls Tryz.prog 73 #[.pointer (some ⟨rb, 0, none⟩)] w fun e w' => e = .returned (.string s) ∧ RdAt w' rb (.slice (some ⟨g, 0, none⟩) (2 + s.size + lm) cp) ((2 + s.size : Nat) : Int) 0 0 ∧ w.grownBy w' (some rb) := by
  have e0 : cat (cat (numZ s.size) 2 (sZ s)) (2 + s.size) zm 0 = numZ s.size 0 := by
    unfold cat
    rw [if_pos (by omega), if_pos (by omega)]
  have e1 : cat (cat (numZ s.size) 2 (sZ s)) (2 + s.size) zm 1 = numZ s.size 1 := by
    unfold cat
    rw [if_pos (by omega), if_pos (by omega)]
  have e : cat (cat (numZ s.size) 2 (sZ s)) (2 + s.size) zm 0 * 256 + cat (cat (numZ s.size) 2 (sZ s)) (2 + s.size) zm (0 + 1) = s.size := by
    rw [e0, Nat.zero_add, e1]
    simp [numZ]
    omega
  have es : strZ (fun i => cat (cat (numZ s.size) 2 (sZ s)) (2 + s.size) zm (0 + 2 + i)) s.size = s := by
    rw [strZ_congr _ (sZ s) s.size (fun i hi => by
      show cat (cat (numZ s.size) 2 (sZ s)) (2 + s.size) zm (0 + 2 + i) = sZ s i
      unfold cat
      rw [if_pos (by omega), if_neg (by omega), Nat.zero_add, Nat.add_sub_cancel_left])]
    exact strZ_back s
  have t := text_ok rb g (2 + s.size + lm) cp 0 s.size 0 _ w h.1 h.2.1 h.2.2.2 (by omega) h.2.2.1 e (by omega) (by rw [es]; exact hc)
  rw [es, Nat.zero_add] at t
  exact t
theorem put_text (s : ByteArray) (hs : s.size ≤ 65535) (hc : (chk s).2 = 0) (w : World) : Calls Tryz.prog 20 #[.slice none 0 0, .string s] w fun e w' => ∃ g cp, e = .returned (.tuple #[.slice (some ⟨g, 0, none⟩) (2 + s.size) cp, .int .i64 0]) ∧ Came w' (some ⟨g, 0, none⟩) (2 + s.size) cp (cat (numZ s.size) 2 (sZ s)) ∧ Below w.heap.size w w' := by
  refine (putText_ok none 0 0 (lZ []) s w (nil_came _ _ (lZ_bd _ (by decide))) (by decide) hs hc).mono ?_
  rintro e w' ⟨g, cp, rfl, ho, hb⟩
  rw [Nat.zero_add] at ho ⊢
  refine ⟨g, cp, rfl, came_own (z' := sZ s) ho ?_ (cat_bd (numZ_bd _) (sZ_bd s)), hb⟩
  rw [strCells_sZ, cellsOf_zero, List.nil_append]
  exact cells_cat _ _ _ _
theorem same_d (w : World) (a b : Option Addr) (n k k' : Nat) (z : Nat → Int) (h : Came w a n k z) (h' : Came w b n k' z) : Calls Tryz.prog 8 #[.slice a n k, .slice b n k'] w fun e w' => e = .returned (.bool true) ∧ w' = w := by
  have t := same_any a b n k n k' z z w h h'
  rw [beq_self_eq_true] at t
  exact t
end Go.Proofs.YtkjeneklkdekoaaGreatDoor
