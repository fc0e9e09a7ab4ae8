import Derived.Test.YtkjeneklkdekoaaGreatDoorBkj
import Derived.Test.YtkjeneklkdekoaaGreatDoorBsix
namespace Go.Proofs.YtkjeneklkdekoaaGreatDoor
open Go Go.RowKit
set_option linter.unusedSimpArgs false
set_option linter.unusedVariables false

theorem rnumber_made (n : Int) (w : World) :
    Calls Tryz.prog 22 #[.int .i64 n] w fun e w' => Made w w' e 2 (cellsOf (numZ n) 2) := by
  refine (rnumber_any n w).mono ?_
  rintro e w' ⟨rfl, rfl⟩
  refine ⟨w.heap.size, 2, rfl, ⟨rfl, .inr ⟨w.heap.size, 2, #[.int .u8 (n / 256 % 256), .int .u8 (n % 256)], rfl, Nat.le_refl _, heap_alloc_new w _, Nat.le_refl _, by decide, rfl, rfl⟩⟩, (Below.refl _ _).alloc (Nat.le_refl _) _⟩

set_option maxRecDepth 100000 in
set_option maxHeartbeats 1000000 in
theorem rlong_any (n : Int) (w : World) :
    Calls Tryz.prog 23 #[.int .i64 n] w fun e w' => Made w w' e 4 (cellsOf (lngZ n) 4) := by
  obtain ⟨i0, hi, hz0, hz1, hz2⟩ := info_parts Tryz.info5
  have M0 : Hid (Calls Tryz.prog 84 #[.int .i64 n, .int .i64 4294967296] w fun e w' => e = .returned (.int .i64 (n % 4294967296)) ∧ w' = w) := rmod_large n w
  have E0 : Hid (cellsOf (numZ (n % 4294967296 / 65536)) 2 ++ cellsOf (numZ (n % 65536)) 2 = cellsOf (lngZ n) 4) := by
    show cellsOf (numZ (n % 4294967296 / 65536)) 2 ++ cellsOf (numZ (n % 65536)) 2 = cellsOf (lngZ n) 4
    have e1 : n % 4294967296 / 65536 / 256 % 256 = n / 16777216 % 256 := by omega
    have e2 : n % 4294967296 / 65536 % 256 = n / 65536 % 256 := by omega
    have e3 : n % 65536 / 256 % 256 = n / 256 % 256 := by omega
    have e4 : n % 65536 % 256 = n % 256 := by omega
    simp [cellsOf, List.range_succ, numZ, lngZ, e1, e2, e3, e4]
  have b0 : 0 ≤ n % 4294967296 := by omega
  have b1 : n % 4294967296 < 4294967296 := by omega
  go_enter Tryz.func23, Tryz.ntmps23
  go_wp2_with (go_at_call 84; refine M0.out.mono ?_; rintro e w2 ⟨rfl, he⟩; obtain rfl := he.symm; clear he)
  go_must (go_at_call 22)
  refine (rnumber_made _ _).mono ?_
  rintro e w2 ⟨g, cp, rfl, ho, hb⟩
  have HO : Hid (w2.ownsRow w.heap.size 5 1 (.slice (some ⟨g, 0, none⟩) 2 cp) 2 (cellsOf (numZ (n % 4294967296 / 65536)) 2)) := ho
  have HB : Hid (Below w.heap.size w w2) := hb
  clear ho hb
  go_wp2_with fail
  go_must (go_at_call 22)
  refine (rnumber_made _ _).mono ?_
  rintro e w3 ⟨g2, cp2, rfl, ho, hb⟩
  have HO3 : Hid (w3.ownsRow w.heap.size 5 1 (.slice (some ⟨g, 0, none⟩) 2 cp) 2 (cellsOf (numZ (n % 4294967296 / 65536)) 2)) := HO.out.kept (show w2.grownBy w3 none from ⟨hb.os, hb.tape, hb.output, hb.size, fun k hk _ => hb.block k hk⟩) (by simp [Value.ownBlock])
  have HC3 : Hid (Came w3 (some ⟨g2, 0, none⟩) 2 cp2 (numZ (n % 65536))) := by
    first
    | exact made_came (w := w) ho (numZ_bd _)
    | (have q : n % 4294967296 % 65536 = n % 65536 := by omega
       rw [q] at ho
       exact made_came (w := w) ho (numZ_bd _))
  have HB3 : Hid (Below w.heap.size w w3) := HB.out.trans (hb.mono HB.out.size)
  clear ho hb
  go_wp2_with (at_builtin; refine wpList_append_own _ rfl (.tmp 7) (.tmp 10) 22 rfl w.heap.size 5 i0 (.int .u8 0) 1 1 Tryz.underlying22 hi hz0 hz1 hz2 rfl (by decide) _ _ _ rfl HO3.out ⟨g2, 0, none⟩ 2 cp2 (cellsOf (numZ (n % 65536)) 2) rfl ?c0 ?c1 ?c2 ?c3 ?c4 ?c5 ?_)
  case c0 => simp [cellsOf]
  case c1 => exact came_cells HC3.out
  case c2 => exact fun u hu => cellsOf_one _ _ u hu
  case c3 => decide
  case c4 => decide
  case c5 => exact HB3.out.size
  intro v3 w4 hown3 hgrow3 hnil3
  have hb3 := HB3.out.grown hgrow3 HB3.out.size (fun q hq => (HO3.out.lt q hq).1)
  have hex : ∃ g cp, v3 = .slice (some ⟨g, 0, none⟩) 4 cp := by
    obtain ⟨_, h | ⟨g, cp, cur, hv, _⟩⟩ := hown3
    · exact absurd h.1 (by simpa using hnil3)
    · exact ⟨g, cp, hv⟩
  obtain ⟨g3, cp3, rfl⟩ := hex
  rw [E0.out] at hown3
  have HS : Hid (w4.ownsRow w.heap.size 5 1 (.slice (some ⟨g3, 0, none⟩) 4 cp3) 4 (cellsOf (lngZ n) 4) ∧ Below w.heap.size w w4) := ⟨hown3, hb3⟩
  clear hown3 hgrow3 hnil3 hb3
  go_wp2
  go_ret
  exact ⟨g3, cp3, rfl, HS.out.1, HS.out.2⟩

set_option maxRecDepth 100000 in
set_option maxHeartbeats 1000000 in
theorem rdata_long (a : Option Addr) (l k : Nat) (hl : 65535 < l) (w : World) :
    Calls Tryz.prog 26 #[.slice a l k] w fun e w' => e = .returned (.tuple #[.slice none 0 0, .int .i64 11]) ∧ w' = w := by
  have h1 : (65535 : Int) < l := by omega
  go_enter Tryz.func26, Tryz.ntmps26
  go_wp2
  go_ret2
  exact ⟨rfl, rfl⟩

set_option maxRecDepth 100000 in
set_option maxHeartbeats 1000000 in
theorem rdata_ok (a : Option Addr) (l k : Nat) (z : Nat → Int) (w : World) (h : Came w a l k z) (hl : l ≤ 65535) :
    Calls Tryz.prog 26 #[.slice a l k] w fun e w' => ∃ g cp, e = .returned (.tuple #[.slice (some ⟨g, 0, none⟩) (2 + l) cp, .int .i64 0]) ∧ Came w' (some ⟨g, 0, none⟩) (2 + l) cp (cat (numZ l) 2 z) ∧ Below w.heap.size w w' := by
  obtain ⟨i0, hi, hz0, hz1, hz2⟩ := info_parts Tryz.info5
  have P0 : Hid (Calls Tryz.prog 22 #[.int .i64 l] w fun e w' => ∃ g cp, e = .returned (.slice (some ⟨g, 0, none⟩) 2 cp) ∧ w'.ownsRow w.heap.size 5 1 (.slice (some ⟨g, 0, none⟩) 2 cp) 2 (cellsOf (numZ l) 2) ∧ Below w.heap.size w w') := by
    refine (rnumber_made l w).mono ?_
    rintro e w' ⟨g, cp, rfl, ho, hb⟩
    exact ⟨g, cp, rfl, ho, hb⟩
  have h1 : ¬ (65535 : Int) < l := by omega
  have HC : Hid (∀ w', Below w.heap.size w w' → Came w' a l k z) := fun w' hb => came_below (B := 0) h hb
  have HN : Hid (a = none → l = 0 ∧ k = 0) := by rintro rfl; exact came_nil h
  have HZ : Hid (∀ i, 0 ≤ z i ∧ z i ≤ 255) := h.2.1
  clear h
  cases a with
  | none =>
    obtain ⟨rfl, rfl⟩ := HN.out rfl
    go_enter Tryz.func26, Tryz.ntmps26
    go_wp2_with (first | (go_at_call 22; refine P0.out.mono ?_; rintro e w1 ⟨g, cp, rfl, ho, hb⟩; have HO : Hid (w1.ownsRow w.heap.size 5 1 (.slice (some ⟨g, 0, none⟩) 2 cp) 2 (cellsOf (numZ (0 : Nat)) 2)) := ho; have HB : Hid (Below w.heap.size w w1) := hb; clear ho hb) | (at_builtin; refine wpList_append_own_none rfl (.tmp 9) (.tmp 10) 22 rfl w.heap.size 5 i0 1 Tryz.underlying22 hi _ 2 (cellsOf (numZ (0 : Nat)) 2) rfl HO.out rfl ?_))
    go_ret2
    refine ⟨g, cp, rfl, ?_, HB.out⟩
    refine came_own (z' := z) HO.out ?_ (cat_bd (numZ_bd _) HZ.out)
    exact cellsOf_congr _ _ _ fun i hi => by simp [cat, hi]
  | some ad =>
    go_enter Tryz.func26, Tryz.ntmps26
    go_wp2_with (first | (go_at_call 22; refine P0.out.mono ?_; rintro e w1 ⟨g, cp, rfl, ho, hb⟩; have HO : Hid (w1.ownsRow w.heap.size 5 1 (.slice (some ⟨g, 0, none⟩) 2 cp) 2 (cellsOf (numZ l) 2)) := ho; have HB : Hid (Below w.heap.size w w1) := hb; clear ho hb) | (at_builtin; refine wpList_append_own _ rfl (.tmp 9) (.tmp 10) 22 rfl w.heap.size 5 i0 (.int .u8 0) 1 1 Tryz.underlying22 hi hz0 hz1 hz2 rfl (by decide) _ _ _ rfl HO.out ad l k (cellsOf z l) rfl ?c0 ?c1 ?c2 ?c3 ?c4 ?c5 ?_))
    case c0 => simp [cellsOf]
    case c1 => exact came_cells (HC.out _ HB.out)
    case c2 => exact fun u hu => cellsOf_one z l u hu
    case c3 => unfold maxLen; omega
    case c4 => omega
    case c5 => exact HB.out.size
    intro v3 w3 hown3 hgrow3 hnil3
    have hb3 := HB.out.grown hgrow3 HB.out.size (fun q hq => (HO.out.lt q hq).1)
    have hex : ∃ g cp, v3 = .slice (some ⟨g, 0, none⟩) (2 + l) cp := by
      obtain ⟨_, h | ⟨g, cp, cur, hv, _⟩⟩ := hown3
      · exact absurd h.1 (by simpa using hnil3)
      · exact ⟨g, cp, hv⟩
    obtain ⟨g3, cp3, rfl⟩ := hex
    have HS : Hid (Came w3 (some ⟨g3, 0, none⟩) (2 + l) cp3 (cat (numZ l) 2 z) ∧ Below w.heap.size w w3) := ⟨came_own (z' := z) hown3 (cells_cat (numZ l) z 2 l) (cat_bd (numZ_bd _) HZ.out), hb3⟩
    clear hown3 hgrow3 hnil3 hb3
    go_wp2
    go_ret2
    exact ⟨g3, cp3, rfl, HS.out.1, HS.out.2⟩
end Go.Proofs.YtkjeneklkdekoaaGreatDoor
