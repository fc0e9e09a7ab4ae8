import Derived.Test.YtibihbclijpkjaaGreatDoorFdk
import Derived.Lib.AppendZerosOnto
namespace Go.Proofs.YtibihbclijpkjaaGreatDoor
open Go Go.RowKit
set_option linter.unusedSimpArgs false
set_option linter.unusedVariables false

theorem own_below {w w' : World} {B n : Nat} {v : Value} {xs : List Value} (h : w.ownsRow B 5 1 v n xs) (hb : Below w.heap.size w w') : w'.ownsRow B 5 1 v n xs := by
  refine ⟨h.1, ?_⟩
  rcases h.2 with h2 | ⟨g, cap, cur, rfl, h3, hg, h4⟩
  · exact .inl h2
  · exact .inr ⟨g, cap, cur, rfl, h3, by rw [hb.block g (lt_of_block hg)]; exact hg, h4⟩
/-- What is laid behind a row that is ours. -/
def Adds (B : Nat) (v0 : Value) (w w' : World) (e : Ending) (n : Nat) (xs : List Value) : Prop := ∃ v, e = .returned v ∧ w'.ownsRow B 5 1 v n xs ∧ v ≠ .slice none 0 0 ∧ w.grownBy w' v0.ownBlock ∧ (∀ k, v.ownBlock = some k → v0.ownBlock = some k ∨ w.heap.size ≤ k)
/-- One laying behind the other. -/
theorem grown_on {w w1 w2 : World} {v0 v1 : Value} (h1 : w.grownBy w1 v0.ownBlock) (hv : ∀ k, v1.ownBlock = some k → v0.ownBlock = some k ∨ w.heap.size ≤ k) (h2 : w1.grownBy w2 v1.ownBlock) : w.grownBy w2 v0.ownBlock :=
  ⟨h2.os.trans h1.os, h2.tape.trans h1.tape, h2.output.trans h1.output, Nat.le_trans h1.size h2.size, fun k hk hne => by
    rw [h2.block k (Nat.lt_of_lt_of_le hk h1.size) (fun e => by
      rcases hv k e.symm with h | h
      · exact hne h.symm
      · omega)]
    exact h1.block k hk hne⟩
theorem own_on {w w1 : World} {v0 v1 v2 : Value} (hs : w.heap.size ≤ w1.heap.size) (h1 : ∀ k, v1.ownBlock = some k → v0.ownBlock = some k ∨ w.heap.size ≤ k) (h2 : ∀ k, v2.ownBlock = some k → v1.ownBlock = some k ∨ w1.heap.size ≤ k) : ∀ k, v2.ownBlock = some k → v0.ownBlock = some k ∨ w.heap.size ≤ k := fun k e => by
  rcases h2 k e with h | h
  · exact h1 k h
  · exact .inr (Nat.le_trans hs h)
theorem below_gb {w w' : World} {r : Option Nat} (h : Below w.heap.size w w') : w.grownBy w' r := ⟨h.os, h.tape, h.output, h.size, fun k hk _ => h.block k hk⟩
theorem gb_below2 {B : Nat} {w w' : World} {v : Value} (h : w.grownBy w' v.ownBlock) (hB : B ≤ w.heap.size) (hv : ∀ k, v.ownBlock = some k → B ≤ k) : Below B w w' :=
  ⟨h.os, h.tape, h.output, h.size, fun k hk => h.block k (Nat.lt_of_lt_of_le hk hB) (fun e => by have := hv k e.symm; omega)⟩
theorem own_somb {w : World} {B n : Nat} {v : Value} {xs : List Value} (h : w.ownsRow B 5 1 v n xs) (hv : v ≠ .slice none 0 0) : ∃ g cap cur, v = .slice (some ⟨g, 0, none⟩) n cap ∧ B ≤ g ∧ w.heap[g]? = some (.cells cur 5 (0, 0)) ∧ n ≤ cap ∧ cap ≤ maxLen ∧ cur.size = cap ∧ cur.toList.take n = xs := by
  rcases h.2 with h2 | ⟨g, cap, cur, rfl, h3, hg, h4, h5, h6, h7⟩
  · exact absurd h2.1 hv
  · exact ⟨g, cap, cur, rfl, h3, hg, h4, h5, by simpa using h6, by simpa using h7⟩

set_option maxRecDepth 100000 in
set_option maxHeartbeats 1000000 in
theorem grow_own (B n k : Nat) (v : Value) (xs : List Value) (w : World) (h : w.ownsRow B 5 1 v n xs) (hv : v ≠ .slice none 0 0) (hB : B ≤ w.heap.size) (hn : n ≤ 400000) (hk : k ≤ 400000) :
    Calls Tryz.prog 41 #[v, .int .i64 k] w fun e w' => Adds B v w w' e n xs := by
  obtain ⟨i0, hi, hz0, hz1, hz2⟩ := info_parts Tryz.info5
  obtain ⟨g, cap, cur, rfl, hg, hcur, hnc, hcm, hcs, htk⟩ := own_somb h hv
  have hcm' : cap ≤ 9223372036854775807 := by unfold maxLen at hcm; omega
  have hn0 : ¬ (k : Int) < 0 := by omega
  have w1 : IntKind.i64.wrap ((cap : Int) - n) = (cap : Int) - n := by rw [IntKind.wrap_i64]; omega
  have w2 : IntKind.i64.wrap ((k : Int) - ((cap : Int) - n)) = (k : Int) - ((cap : Int) - n) := by rw [IntKind.wrap_i64]; omega
  by_cases hroom : n + k ≤ cap
  · have hr : ¬ (0 : Int) < (k : Int) - ((cap : Int) - n) := by omega
    have HO : Hid (w.ownsRow B 5 1 (.slice (some ⟨g, 0, none⟩) n cap) n xs) := h
    clear h hcur htk hcs
    go_enter Tryz.func41, Tryz.ntmps41
    go_wp2_with fail
    go_ret
    exact ⟨_, rfl, HO.out, by simp, World.grownBy.refl _ _, fun k e => .inl e⟩
  · obtain ⟨q, hq⟩ : ∃ q : Nat, (k : Int) - ((cap : Int) - n) = q := ⟨n + k - cap, by omega⟩
    have hq0 : 0 < q := by omega
    have hqle : q ≤ 400000 := by omega
    have hcap4 : cap ≤ 800000 := by omega
    have hr : (0 : Int) < (q : Int) := by omega
    have hap : ∀ ty, (Builtin.append_ #[22, 3] ty #[.slice (some ⟨g, 0, none⟩) cap cap, .int .i64 q]).run Tryz.prog w = _ := fun ty => Lib.run_append_grow_zeros w 22 3 ty 5 i0 (.int .u8 0) .i64 .i64 Tryz.underlying22 Tryz.underlying3 hi hz0 (some ⟨g, 0, none⟩) cap cap cur.toList (by
      rw [hz1]
      refine run_firstCells_some _ 1 cap ⟨g, 0, none⟩ cap cap cur.toList (by simp [hcs]) (fun j u hu => ?_)
      rw [plain_add, Nat.zero_add]
      show w.cell? _ = _
      simp only [World.cell?, hcur]
      simpa using hu) q hq0 (by rw [hz1]; decide) (by omega) (by omega) (by rw [hz2]; omega) (by
        rw [hz2]
        have := growslice_fits (need := cap + q) (old := cap) (bytes := 1) (by omega) (by omega)
        simpa using this)
    have hcapi : (cap : Int) ≤ cap := Int.le_refl _
    have hnn : (n : Int) ≤ grownCap w (cap + q) cap 5 := by have := grownCap_ge w (cap + q) cap 5; omega
    have HF : Hid (cap ≤ cap ∧ n ≤ cap ∧ cur.size = cap ∧ cur.toList.take n = xs) := ⟨Nat.le_refl _, hnc, hcs, htk⟩
    clear h hcur htk hcs
    go_enter Tryz.func41, Tryz.ntmps41
    go_wp2_with (at_builtin; refine Lib.wpList_append_run _ rfl (.tmp 20) (.tmp 21) 22 3 rfl _ _ rfl rfl _ _ (hap _) ?_)
    clear hap
    go_ret
    have hge := grownCap_ge w (cap + q) cap 5
    have hcm2 : grownCap w (cap + q) cap 5 ≤ maxLen := grownCap_le_maxLen w (cap + q) cap 5 (by unfold maxLen; omega)
    obtain ⟨_, f2, f3, f4⟩ := HF.out
    refine ⟨_, rfl, World.ownsRow.drew ⟨?_, .inr ⟨w.heap.size, _, _, rfl, hB, heap_alloc_new w _, by omega, hcm2, ?_, ?_⟩⟩, by simp, below_gb (((Below.refl _ _).alloc (Nat.le_refl _) _).drew), fun k e => .inr (by cases e; exact Nat.le_refl _)⟩
    · rw [← f4, List.length_take, Array.length_toList, f3]; omega
    · simp only [Array.size_append, size_zeroCells, f3]
      simp
      omega
    · rw [Nat.mul_one, Array.toList_append, List.take_append_of_le_length (by rw [Array.length_toList, f3]; exact f2), f4]

theorem nil_came (w : World) : Came w none 0 0 (fun _ => 0) := ⟨Nat.le_refl _, fun _ => ⟨Int.le_refl 0, by show (0 : Int) ≤ 255; decide⟩, .inl ⟨rfl, rfl, rfl⟩⟩
theorem adds_slice {w : World} {B n : Nat} {v : Value} {xs : List Value} (h : w.ownsRow B 5 1 v n xs) (hv : v ≠ .slice none 0 0) (z : Nat → Int) (hz : ∀ i, 0 ≤ z i ∧ z i ≤ 255) (hx : xs = cellsOf z n) : ∃ g cap, v = .slice (some ⟨g, 0, none⟩) n cap ∧ Came w (some ⟨g, 0, none⟩) n cap z := by
  obtain ⟨g, cap, cur, rfl, _⟩ := own_somb h hv
  subst hx
  exact ⟨g, cap, rfl, made_came (w := w) h hz⟩
set_option maxRecDepth 100000 in
set_option maxHeartbeats 1000000 in
theorem wNumber_any (B n : Nat) (v : Value) (xs : List Value) (m : Int) (w : World) (h : w.ownsRow B 5 1 v n xs) (hB : B ≤ w.heap.size) (hn : n ≤ 400000) :
    Calls Tryz.prog 70 #[v, .int .i64 m] w fun e w' => Adds B v w w' e (n + 2) (xs ++ cellsOf (numZ m) 2) := by
  obtain ⟨i0, hi, hz0, hz1, hz2⟩ := info_parts Tryz.info5
  have HO : Hid (w.ownsRow B 5 1 v n xs) := h
  have HP : Hid (Calls Tryz.prog 91 #[.slice none 0 0, .int .i64 m] w fun e w' => Made w w' e (0 + 2) (cellsOf (fun _ => 0) 0 ++ cellsOf (numZ m) 2)) := putNumber_any none 0 0 (fun _ => 0) m w (nil_came w) (by decide)
  clear h
  go_enter Tryz.func70, Tryz.ntmps70
  go_wp2_with fail
  go_must (go_at_call 91)
  refine HP.out.mono ?_
  rintro e w1 ⟨g, cp, rfl, ho, hb⟩
  have HO1 : Hid (w1.ownsRow B 5 1 v n xs) := own_below HO.out hb
  have HR : Hid (w1.ownsRow w.heap.size 5 1 (.slice (some ⟨g, 0, none⟩) 2 cp) 2 (cellsOf (numZ m) 2)) := ho
  have B1 : Hid (Below w.heap.size w w1) := hb
  have HB1 : Hid (B ≤ w1.heap.size) := Nat.le_trans hB hb.size
  clear ho hb
  go_wp2_with (at_builtin; refine wpList_push rfl (.tmp 5) (.tmp 7) 22 rfl B 5 i0 (.int .u8 0) 1 1 Tryz.underlying22 hi hz0 hz1 hz2 rfl (by decide) _ _ _ rfl HO1.out ⟨g, 0, none⟩ 2 cp (cellsOf (numZ m) 2) rfl (by decide) rfl ?d1 ?d2 ?d3 ?d4 ?d5 ?_)
  case d1 =>
    intro j u hu
    have hj := (cellsOf_get _ _ _ _ hu).1
    rw [plain_add, Nat.zero_add, HR.out.cellAt j (by omega)]; exact hu
  case d2 => exact fun u hu => cellsOf_one _ _ _ hu
  case d3 => unfold maxLen; omega
  case d4 => omega
  case d5 => exact HB1.out
  intro v2 w2 hown2 hgrow2 hnil2 hwh2
  have hb2 : w.grownBy w2 v.ownBlock := grown_on (v1 := v) (below_gb B1.out) (fun k e => .inl e) hgrow2
  have HWH : Hid (∀ k, v2.ownBlock = some k → v.ownBlock = some k ∨ w.heap.size ≤ k) := fun k e => by
    rcases hwh2 with h | h
    · exact .inl (h ▸ e)
    · rw [h] at e; cases e; exact .inr B1.out.size
  have HO2 : Hid (w2.ownsRow B 5 1 v2 (n + 2) (xs ++ cellsOf (numZ m) 2)) := hown2
  have HNN : Hid (v2 ≠ .slice none 0 0) := hnil2
  have HB2 : Hid (w.grownBy w2 v.ownBlock) := hb2
  clear hown2 hgrow2 hnil2 hb2 hwh2
  go_wp2_with fail
  go_ret
  exact ⟨v2, rfl, HO2.out, HNN.out, HB2.out, HWH.out⟩
set_option maxRecDepth 100000 in
set_option maxHeartbeats 1000000 in
theorem wText_any (B n : Nat) (v : Value) (xs : List Value) (s : ByteArray) (w : World) (h : w.ownsRow B 5 1 v n xs) (hB : B ≤ w.heap.size) (hn : n ≤ 300000) (hs : s.size ≤ 65535) (hc : (chk s).2 = 0) :
    Calls Tryz.prog 88 #[v, .string s] w fun e w' => Adds B v w w' e (n + (2 + s.size)) (xs ++ (cellsOf (numZ s.size) 2 ++ Lib.strCells s)) := by
  obtain ⟨i0, hi, hz0, hz1, hz2⟩ := info_parts Tryz.info5
  have HO : Hid (w.ownsRow B 5 1 v n xs) := h
  have HS : Hid (s.size ≤ 65535) := hs
  have hT := putText_ok none 0 0 (fun _ => 0) s w (nil_came w) (by decide) hs hc
  have HP : Hid (Calls Tryz.prog 111 #[.slice none 0 0, .string s] w fun e w' => ∃ g cp, e = .returned (.tuple #[.slice (some ⟨g, 0, none⟩) (2 + s.size) cp, .int .i64 0]) ∧ w'.ownsRow w.heap.size 5 1 (.slice (some ⟨g, 0, none⟩) (2 + s.size) cp) (2 + s.size) (cellsOf (numZ s.size) 2 ++ Lib.strCells s) ∧ Below w.heap.size w w') := by
    show Calls _ _ _ _ _
    simpa [cellsOf_zero] using hT
  clear h hT hc hs
  go_enter Tryz.func88, Tryz.ntmps88
  go_wp2_with fail
  go_must (go_at_call 111)
  refine HP.out.mono ?_
  rintro e w1 ⟨g, cp, rfl, ho, hb⟩
  have HO1 : Hid (w1.ownsRow B 5 1 v n xs) := own_below HO.out hb
  have HR : Hid (w1.ownsRow w.heap.size 5 1 (.slice (some ⟨g, 0, none⟩) (2 + s.size) cp) (2 + s.size) (cellsOf (numZ s.size) 2 ++ Lib.strCells s)) := ho
  have B1 : Hid (Below w.heap.size w w1) := hb
  have HB1 : Hid (B ≤ w1.heap.size) := Nat.le_trans hB hb.size
  clear ho hb
  go_wp2_with (at_builtin; refine wpList_push rfl (.tmp 12) (.tmp 13) 22 rfl B 5 i0 (.int .u8 0) 1 1 Tryz.underlying22 hi hz0 hz1 hz2 rfl (by decide) _ _ _ rfl HO1.out ⟨g, 0, none⟩ (2 + s.size) cp (cellsOf (numZ s.size) 2 ++ Lib.strCells s) rfl (by omega) ?d0 ?d1 ?d2 ?d3 ?d4 ?d5 ?_)
  case d0 => have := HR.out.1; exact this
  case d1 =>
    intro j u hu
    have hl := HR.out.1
    have hj : j < (cellsOf (numZ s.size) 2 ++ Lib.strCells s).length := by
      rcases Nat.lt_or_ge j (cellsOf (numZ s.size) 2 ++ Lib.strCells s).length with h | h
      · exact h
      · rw [List.getElem?_eq_none h] at hu; cases hu
    rw [plain_add, Nat.zero_add, HR.out.cellAt j (by omega)]; exact hu
  case d2 =>
    intro u hu
    rcases List.mem_append.1 hu with hu | hu
    · exact cellsOf_one _ _ _ hu
    · simp only [Lib.strCells, List.mem_map] at hu
      obtain ⟨_, _, rfl⟩ := hu
      rfl
  case d3 => have := HS.out; unfold maxLen; omega
  case d4 => have := HS.out; omega
  case d5 => exact HB1.out
  intro v2 w2 hown2 hgrow2 hnil2 hwh2
  have hb2 : w.grownBy w2 v.ownBlock := grown_on (v1 := v) (below_gb B1.out) (fun k e => .inl e) hgrow2
  have HWH : Hid (∀ k, v2.ownBlock = some k → v.ownBlock = some k ∨ w.heap.size ≤ k) := fun k e => by
    rcases hwh2 with h | h
    · exact .inl (h ▸ e)
    · rw [h] at e; cases e; exact .inr B1.out.size
  have HO2 : Hid (w2.ownsRow B 5 1 v2 (n + (2 + s.size)) (xs ++ (cellsOf (numZ s.size) 2 ++ Lib.strCells s))) := hown2
  have HNN : Hid (v2 ≠ .slice none 0 0) := hnil2
  have HB2 : Hid (w.grownBy w2 v.ownBlock) := hb2
  clear hown2 hgrow2 hnil2 hb2 hwh2
  go_wp2_with fail
  go_ret
  exact ⟨v2, rfl, HO2.out, HNN.out, HB2.out, HWH.out⟩
end Go.Proofs.YtibihbclijpkjaaGreatDoor
namespace Go.Proofs.YtibihbclijpkjaaGreatDoor
open Go Go.RowKit
open Pkt (Pk Cn Sl In By Is Ss As pkCells Gd wpList_load_wanted box_below)
set_option linter.unusedSimpArgs false
set_option linter.unusedVariables false

theorem box_cells {w : World} {g t : Nat} {cs : Array Value} (h : w.heap[g]? = some (.cells cs t (0, 0))) (k : Nat) (v : Value) (hk : cs[k]? = some v) : w.cell? ⟨g, k, none⟩ = some v := by
  simp only [World.cell?, h]; simpa using hk
theorem heap_in {w : World} {g : Nat} {o : Obj} (h : w.heap[g]? = some o) : g < w.heap.size := by
  rcases Nat.lt_or_ge g w.heap.size with h1 | h1
  · exact h1
  · rw [Array.getElem?_eq_none h1] at h; cases h
/-- A block of another's stays while a row is laid on. -/
theorem gb_block {w w' : World} {v : Value} {g : Nat} {o : Obj} (hg : w.grownBy w' v.ownBlock) (h : w.heap[g]? = some o) (hv : v.ownBlock ≠ some g) : w'.heap[g]? = some o := by
  rw [hg.block g (heap_in h) (fun e => hv e.symm)]; exact h

end Go.Proofs.YtibihbclijpkjaaGreatDoor
