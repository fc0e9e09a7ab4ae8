import Derived.Test.YtkjeneklkdekoaaGreatDoorRfb
import Derived.Test.YtkjeneklkdekoaaGreatDoorMWone
namespace Go.Proofs.YtkjeneklkdekoaaGreatDoor
open Go Go.RowKit
set_option linter.unusedSimpArgs false
set_option linter.unusedVariables false

/-! ### The program's Puts and the document's, in one form -/
/-- A list that was made since a world, in a block of its own, and its bytes. -/
structure Mz (w w' : World) (v : Value) (n : Nat) (Z : Nat → Int) : Prop where
  sl : ∃ g cp, v = .slice (some ⟨g, 0, none⟩) n cp ∧ w.heap.size ≤ g
  own : w'.ownsRow w.heap.size 5 1 v n (cellsOf Z n)
  bd : ∀ i, 0 ≤ Z i ∧ Z i ≤ 255
  bel : Below w.heap.size w w'
theorem mz_of {w w' : World} {g n cp : Nat} {xs : List Value} {Z : Nat → Int} (ho : w'.ownsRow w.heap.size 5 1 (.slice (some ⟨g, 0, none⟩) n cp) n xs) (hx : xs = cellsOf Z n) (hz : ∀ i, 0 ≤ Z i ∧ Z i ≤ 255) (hb : Below w.heap.size w w') : Mz w w' (.slice (some ⟨g, 0, none⟩) n cp) n Z :=
  ⟨⟨g, cp, rfl, (ho.lt g rfl).1⟩, hx ▸ ho, hz, hb⟩
theorem mz_made {w w' : World} {e : Ending} {n : Nat} {xs : List Value} {Z : Nat → Int} (h : Made w w' e n xs) (hx : xs = cellsOf Z n) (hz : ∀ i, 0 ≤ Z i ∧ Z i ≤ 255) : ∃ v, e = .returned v ∧ Mz w w' v n Z := by
  obtain ⟨g, cp, rfl, ho, hb⟩ := h
  exact ⟨_, rfl, mz_of ho hx hz hb⟩
theorem Mz.came {w w' : World} {g n cp : Nat} {Z : Nat → Int} (h : Mz w w' (.slice (some ⟨g, 0, none⟩) n cp) n Z) : Came w' (some ⟨g, 0, none⟩) n cp Z := made_came (w := w) h.own h.bd
theorem Mz.later {w w' w'' : World} {v : Value} {n : Nat} {Z : Nat → Int} (h : Mz w w' v n Z) (hb : Below w'.heap.size w' w'') : Mz w w'' v n Z :=
  ⟨h.sl, own_keep h.own (fun k e => hb.block k (h.own.lt k e).2), h.bd, h.bel.trans (hb.mono h.bel.size)⟩
theorem cells_bv {Z : Nat → Int} (hz : ∀ i, 0 ≤ Z i ∧ Z i ≤ 255) (n : Nat) : ∀ u ∈ cellsOf Z n, Bv u := fun u hu => by
  simp only [cellsOf, List.mem_map, List.mem_range] at hu
  obtain ⟨i, _, rfl⟩ := hu
  exact ⟨Z i, rfl, (hz i).1, (hz i).2⟩
/-- The number that a length is written as. -/
def cl (n : Int) : Int := if n < 0 then 0 else if 268435455 < n then 268435455 else n
theorem cl_bd (n : Int) : 0 ≤ cl n ∧ cl n ≤ 268435455 := by unfold cl; split <;> (try split) <;> omega
section
variable (a0 : Option Addr) (l0 k0 : Nat) (z0 : Nat → Int) (w : World) (h0 : Came w a0 l0 k0 z0) (hl0 : l0 ≤ 300000)
include h0 hl0
theorem pz_number (n : Int) : Calls Tryz.prog 17 #[.slice a0 l0 k0, .int .i64 n] w fun e w' => ∃ v, e = .returned v ∧ Mz w w' v (l0 + 2) (cat z0 l0 (numZ n)) :=
  (putNumber_any a0 l0 k0 z0 n w h0 (by omega)).mono fun e w' h => mz_made h (cells_cat _ _ _ _) (cat_bd h0.2.1 (numZ_bd n))
theorem pz_long (n : Int) : Calls Tryz.prog 18 #[.slice a0 l0 k0, .int .i64 n] w fun e w' => ∃ v, e = .returned v ∧ Mz w w' v (l0 + 4) (cat z0 l0 (lngZ n)) :=
  (putLong_any a0 l0 k0 z0 n w h0 (by omega)).mono fun e w' h => mz_made h (cells_cat _ _ _ _) (cat_bd h0.2.1 (lngZ_bd n))
theorem pz_length (n : Int) : Calls Tryz.prog 19 #[.slice a0 l0 k0, .int .i64 n] w fun e w' => ∃ v, e = .returned v ∧ Mz w w' v (l0 + kn (cl n)) (cat z0 l0 (glZ (cl n))) := by
  have key : Calls Tryz.prog 19 #[.slice a0 l0 k0, .int .i64 n] w fun e w' => Made w w' e (l0 + kn (cl n)) (cellsOf z0 l0 ++ cellsOf (glZ (cl n)) (kn (cl n))) := by
    by_cases h1 : n < 0
    · exact putLength_low a0 l0 k0 z0 n h1 (cl n) (by simp [cl, h1]) w h0 hl0
    · by_cases h2 : 268435455 < n
      · exact putLength_high a0 l0 k0 z0 n h2 (cl n) (by simp [cl, h1, h2]) w h0 hl0
      · have e : cl n = n := by simp [cl, h1, h2]
        rw [e]
        exact putLength_in a0 l0 k0 z0 n (by omega) (by omega) w h0 hl0
  exact key.mono fun e w' h => mz_made h (cells_cat _ _ _ _) (cat_bd h0.2.1 (glZ_bd _ (cl_bd n).1 (cl_bd n).2))
theorem pz_text (s : ByteArray) (hs : s.size ≤ 65535) (hc : (chk s).2 = 0) : Calls Tryz.prog 20 #[.slice a0 l0 k0, .string s] w fun e w' => ∃ v, e = .returned (.tuple #[v, .int .i64 0]) ∧ Mz w w' v (l0 + (2 + s.size)) (cat z0 l0 (cat (numZ s.size) 2 (sZ s))) := by
  refine (putText_ok a0 l0 k0 z0 s w h0 hl0 hs hc).mono ?_
  rintro e w' ⟨g, cp, rfl, ho, hb⟩
  rw [Nat.add_assoc] at ho ⊢
  refine ⟨_, rfl, mz_of ho ?_ (cat_bd h0.2.1 (cat_bd (numZ_bd _) (sZ_bd s))) hb⟩
  rw [strCells_sZ, List.append_assoc, cells_cat, cells_cat]
theorem pz_data (a : Option Addr) (l k : Nat) (z : Nat → Int) (h : Came w a l k z) (hl : l ≤ 65535) : Calls Tryz.prog 21 #[.slice a0 l0 k0, .slice a l k] w fun e w' => ∃ v, e = .returned (.tuple #[v, .int .i64 0]) ∧ Mz w w' v (l0 + (2 + l)) (cat z0 l0 (cat (numZ l) 2 z)) := by
  refine (putData_ok' a0 l0 k0 z0 a l k z w h0 hl0 h hl).mono ?_
  rintro e w' ⟨g, cp, rfl, ho, hb⟩
  rw [Nat.add_assoc] at ho ⊢
  refine ⟨_, rfl, mz_of ho ?_ (cat_bd h0.2.1 (cat_bd (numZ_bd _) h.2.1)) hb⟩
  rw [List.append_assoc, cells_cat, cells_cat]
end
theorem rz_number (n : Int) (w : World) : Calls Tryz.prog 22 #[.int .i64 n] w fun e w' => ∃ v, e = .returned v ∧ Mz w w' v 2 (numZ n) :=
  (rnumber_made n w).mono fun e w' h => mz_made h rfl (numZ_bd n)
theorem rz_long (n : Int) (w : World) : Calls Tryz.prog 23 #[.int .i64 n] w fun e w' => ∃ v, e = .returned v ∧ Mz w w' v 4 (lngZ n) :=
  (rlong_any n w).mono fun e w' h => mz_made h rfl (lngZ_bd n)
theorem rz_groups (n : Int) (w : World) : Calls Tryz.prog 24 #[.int .i64 n] w fun e w' => ∃ v, e = .returned v ∧ Mz w w' v (kn (cl n)) (glZ (cl n)) := by
  have key : Calls Tryz.prog 24 #[.int .i64 n] w fun e w' => Made w w' e (kn (cl n)) (cellsOf (glZ (cl n)) (kn (cl n))) := by
    by_cases h1 : n < 0
    · exact rgroups_low n h1 (cl n) (by simp [cl, h1]) w
    · by_cases h2 : 268435455 < n
      · exact rgroups_high n h2 (cl n) (by simp [cl, h1, h2]) w
      · exact rgroups_in n (by omega) (by omega) (cl n) (by simp [cl, h1, h2]) w
  exact key.mono fun e w' h => mz_made h rfl (glZ_bd _ (cl_bd n).1 (cl_bd n).2)
theorem rz_words (s : ByteArray) (w : World) (hs : s.size ≤ 65535) (hc : (chk s).2 = 0) : Calls Tryz.prog 25 #[.string s] w fun e w' => ∃ v, e = .returned (.tuple #[v, .int .i64 0]) ∧ Mz w w' v (2 + s.size) (cat (numZ s.size) 2 (sZ s)) := by
  refine (words_ok s w hc hs).mono ?_
  rintro e w' ⟨g, cp, rfl, ho, hb⟩
  exact ⟨_, rfl, mz_of ho (by rw [strCells_sZ, cells_cat]) (cat_bd (numZ_bd _) (sZ_bd s)) hb⟩
end Go.Proofs.YtkjeneklkdekoaaGreatDoor
