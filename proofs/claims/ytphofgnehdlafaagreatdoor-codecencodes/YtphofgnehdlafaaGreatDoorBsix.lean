import Derived.Test.YtphofgnehdlafaaGreatDoorBki
import Derived.Test.YtphofgnehdlafaaGreatDoorBkb
import Derived.Deep.RegionWith
import Derived.Lib.LazyBuf
namespace Go.Proofs.YtphofgnehdlafaaGreatDoor
open Go Go.RowKit
set_option linter.unusedSimpArgs false
set_option linter.unusedVariables false
set_option maxRecDepth 100000
set_option maxHeartbeats 1000000
theorem putText_ok (a0 : Option Addr) (l0 k0 : Nat) (z0 : Nat → Int) (s : ByteArray) (w : World) (h0 : Came w a0 l0 k0 z0) (hl0 : l0 ≤ 1300000) (hs : s.size ≤ 65535) (hc : (chk s).2 = 0) :
    Calls Tryz.prog 292 #[.slice a0 l0 k0, .string s] w fun e w' => ∃ g cp, e = .returned (.tuple #[.slice (some ⟨g, 0, none⟩) (l0 + 2 + s.size) cp, .int .i64 0]) ∧ w'.ownsRow w.heap.size 5 1 (.slice (some ⟨g, 0, none⟩) (l0 + 2 + s.size) cp) (l0 + 2 + s.size) (cellsOf z0 l0 ++ cellsOf (numZ s.size) 2 ++ Lib.strCells s) ∧ Below w.heap.size w w' := by
  obtain ⟨i0, hi, hz0, hz1, hz2⟩ := info_parts Tryz.info5
  obtain ⟨c, q, hcq⟩ : ∃ c q, chk s = (c, q) := ⟨_, _, rfl⟩
  have K0 : Hid (∀ w, Calls Tryz.prog 253 #[.string s] w fun e w' => e = .returned (.tuple #[.int .i64 c, .int .i64 0]) ∧ Below w.heap.size w w') := fun w => by
    refine (chk_any s w).mono ?_
    rw [hcq] at hc ⊢
    have hq : q = 0 := hc
    subst hq
    rintro e w' ⟨rfl, hb, _⟩
    exact ⟨rfl, hb⟩
  have P0 : Hid (∀ w1, Below w.heap.size w w1 → Calls Tryz.prog 262 #[.slice a0 l0 k0, .int .i64 s.size] w1 fun e w' => Made w w' e (l0 + 2) (cellsOf z0 l0 ++ cellsOf (numZ s.size) 2)) := fun w1 hb => (putNumber_any a0 l0 k0 z0 s.size w1 (came_below (B := 0) h0 hb) (by omega)).mono fun e w' h => made_below hb h
  clear h0 hc hcq
  go_enter Tryz.func292, Tryz.ntmps292
  go_wp2_with (first | (go_at_call 253; refine (K0.out _).mono ?_; rintro e w1 ⟨rfl, hb1⟩; have HB1 : Hid (Below w.heap.size w w1) := hb1; clear hb1))
  go_must (go_at_call 262)
  refine (P0.out _ HB1.out).mono ?_
  rintro e w2 ⟨g, cp, rfl, ho, hb2⟩
  have HO : Hid (w2.ownsRow w.heap.size 5 1 (.slice (some ⟨g, 0, none⟩) (l0 + 2) cp) (l0 + 2) (cellsOf z0 l0 ++ cellsOf (numZ s.size) 2)) := ho
  have HB : Hid (Below w.heap.size w w2) := hb2
  clear ho hb2
  go_wp2_with (at_builtin; refine Lib.wpList_append_own_string _ rfl (.tmp 19) (.tmp 20) 22 9 rfl w.heap.size 5 i0 Tryz.underlying22 Tryz.underlying9 hi hz0 hz1 hz2 _ _ _ rfl HO.out s rfl ?d1 ?d2 ?d3 ?_)
  case d1 => unfold maxLen; omega
  case d2 => omega
  case d3 => exact HB.out.size
  intro v3 w3 hown3 hgrow3 hnil3
  have hb3 := HB.out.grown hgrow3 HB.out.size (fun q hq => (HO.out.lt q hq).1)
  have hex : ∃ g cp, v3 = .slice (some ⟨g, 0, none⟩) (l0 + 2 + s.size) cp := by
    obtain ⟨_, h | ⟨g, cp, cur, hv, _⟩⟩ := hown3
    · exact absurd h.1 (by simpa using hnil3)
    · exact ⟨g, cp, hv⟩
  obtain ⟨g3, cp3, rfl⟩ := hex
  have HS : Hid (w3.ownsRow w.heap.size 5 1 (.slice (some ⟨g3, 0, none⟩) (l0 + 2 + s.size) cp3) (l0 + 2 + s.size) (cellsOf z0 l0 ++ cellsOf (numZ s.size) 2 ++ Lib.strCells s) ∧ Below w.heap.size w w3) := ⟨by rw [List.append_assoc]; exact hown3, hb3⟩
  clear hown3 hgrow3 hnil3 hb3
  go_wp2
  go_ret2
  exact ⟨g3, cp3, rfl, HS.out.1, HS.out.2⟩
end Go.Proofs.YtphofgnehdlafaaGreatDoor
namespace Go.Proofs.YtphofgnehdlafaaGreatDoor.Bk
open Go Go.RowKit
set_option linter.unusedSimpArgs false
set_option linter.unusedVariables false
set_option maxRecDepth 100000
set_option maxHeartbeats 1000000
theorem came_cells {w : World} {ad : Addr} {l k : Nat} {z : Nat → Int} (h : Came w (some ad) l k z) : ∀ j u, (cellsOf z l)[j]? = some u → w.cell? (ad.add j) = some u := by
 intro j u hj
 obtain ⟨q1, rfl⟩ := cellsOf_get z l j u hj
 obtain ⟨_, _, ⟨h, _⟩ | ⟨ad', h, hc⟩⟩ := h
 ·
  cases h
 ·
  obtain rfl := Option.some.inj h
  exact hc j q1
theorem came_nil {w : World} {l k : Nat} {z : Nat → Int} (h : Came w none l k z) : l = 0 ∧ k = 0 := by
 obtain ⟨_, _, ⟨_, h1, h2⟩ | ⟨_, h, _⟩⟩ := h
 ·
  exact ⟨h1, h2⟩
 ·
  cases h
theorem cellsOf_congr (z z' : Nat → Int) (n : Nat) (h : ∀ i, i < n → z i = z' i) : cellsOf z n = cellsOf z' n := by
 unfold cellsOf
 apply List.map_congr_left
 intro i hi
 rw [h i (List.mem_range.1 hi)]
def cat (z : Nat → Int) (n : Nat) (z' : Nat → Int) : Nat → Int := fun i => if i < n then z i else z' (i - n)
theorem cat_bd {z z' : Nat → Int} {n : Nat} (h : ∀ i, 0 ≤ z i ∧ z i ≤ 255) (h' : ∀ i, 0 ≤ z' i ∧ z' i ≤ 255) (i : Nat) : 0 ≤ cat z n z' i ∧ cat z n z' i ≤ 255 := by
 unfold cat
 split
 ·
  exact h i
 ·
  exact h' _
theorem cells_cat (z z' : Nat → Int) (n : Nat) : ∀ m, cellsOf z n ++ cellsOf z' m = cellsOf (cat z n z') (n + m)
 | 0 => by
  rw [Nat.add_zero, cellsOf_zero, List.append_nil]
  exact cellsOf_congr _ _ _ fun i hi => by simp [cat, hi]
 | m + 1 => by
  rw [cellsOf_succ, ← List.append_assoc, cells_cat z z' n m, ← Nat.add_assoc, cellsOf_succ]
  have e : cat z n z' (n + m) = z' m := by unfold cat; rw [if_neg (by omega), Nat.add_sub_cancel_left]
  rw [e]
theorem came_own {w' : World} {g n cp base : Nat} {z z' : Nat → Int} {xs : List Value} (ho : w'.ownsRow base 5 1 (.slice (some ⟨g, 0, none⟩) n cp) n xs) (hx : xs = cellsOf z n) (hz : ∀ i, 0 ≤ z i ∧ z i ≤ 255) : Came w' (some ⟨g, 0, none⟩) n cp z := by
 subst hx
 exact made_came (w := w') ho hz
def sZ (s : ByteArray) : Nat → Int := fun i => atB s i
theorem sZ_bd (s : ByteArray) (i : Nat) : 0 ≤ sZ s i ∧ sZ s i ≤ 255 := by
 have := atB_lt s i
 unfold sZ
 omega
theorem strCells_sZ (s : ByteArray) : Lib.strCells s = cellsOf (sZ s) s.size := by
 apply List.ext_getElem
 ·
  rw [Lib.strCells_length, cellsOf_length]
 ·
  intro i h1 h2
  rw [cellsOf_length] at h2
  simp only [Lib.strCells, cellsOf, List.getElem_map, List.getElem_range, sZ]
  rw [atB_in s i h2]
  rfl
end Go.Proofs.YtphofgnehdlafaaGreatDoor.Bk
