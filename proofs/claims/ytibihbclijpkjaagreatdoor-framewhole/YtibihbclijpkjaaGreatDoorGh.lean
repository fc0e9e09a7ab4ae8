import Derived.Test.YtibihbclijpkjaaGreatDoorGg
import Derived.Test.YtibihbclijpkjaaGreatDoorFdz
namespace Go.Proofs.YtibihbclijpkjaaGreatDoor
open Go Go.RowKit
open Pkt (Pk Cn Sl In By Is Ss As pkCells Gd Small ck TT sz fg nilBy)
set_option linter.unusedSimpArgs false
set_option linter.unusedVariables false

def cnK : Cn := { noCn with mz := listZ [104, 105] }
theorem in_k (w : World) (b : Nat) (h : By w ⟨some ⟨b, 0, none⟩, 2, 2⟩ (listZ [104, 105])) : In w (pubK b) cnK :=
  ⟨nilBy w, nilBy w, h, ⟨Nat.le_refl _, .inl rfl⟩, ⟨Nat.le_refl _, .inl rfl⟩, ⟨Nat.le_refl _, .inl rfl⟩⟩
theorem ck_k (b : Nat) : ck TT (pubK b) cnK = 0 := by kernel_rfl
theorem sz_k (b : Nat) : sz (pubK b) cnK = 9 := by kernel_rfl
theorem fg_k (b : Nat) : fg (pubK b) = 2 := by kernel_rfl
theorem cells_k : cellsOf (oneZ 50) 1 ++ cellsOf (glZ 9) (kn 9) ++ (cellsOf (numZ 3) 2 ++ Lib.strCells ⟨#[97, 47, 98]⟩) ++ cellsOf (numZ 10) 2 ++ cellsOf (listZ [104, 105]) 2 = cellsOf bytesK 11 := by kernel_rfl
theorem small_k (b : Nat) : Small (pubK b) cnK :=
  ⟨(by show (0 : Nat) ≤ 1000000; decide), (by show (0 : Nat) ≤ 1000000; decide), (by show (0 : Nat) ≤ 1000000; decide), (by show (3 : Nat) ≤ 1000000; decide), (by show (0 : Nat) ≤ 1000000; decide), (by show (0 : Nat) ≤ 1000000; decide), (by show (2 : Nat) ≤ 1000000; decide), (by show (0 : Nat) ≤ 1000000; decide), (by show (0 : Nat) ≤ 1000000; decide), (by show (0 : Nat) ≤ 1000000; decide), (by show (0 : Nat) ≤ 100000000; decide), (by show (0 : Nat) ≤ 100000000; decide)⟩
theorem enc_ok : EncOk := by
  intro w b hg hby
  refine (encode_pub (pubK b) cnK w 9 hg (in_k w b hby) (small_k b) rfl (ck_k b) (fg_k b) (sz_k b) (by decide) (by show (0 : Int) < 1; decide) (by show 0 < 2; decide) (by show 2 ≤ 150000; decide) (by show (3 : Nat) ≤ 65535; decide) (by kernel_rfl)).mono ?_
  rintro e w' ⟨v, rfl, ho, hv, hb⟩
  have ho' : w'.ownsRow w.heap.size 5 1 v 11 (cellsOf bytesK 11) := by rw [← cells_k]; exact ho
  obtain ⟨g, cap, rfl, hcame⟩ := adds_slice ho' hv bytesK (listZ_bd _ (by simp)) rfl
  exact ⟨_, cap, rfl, hcame, hb⟩
end Go.Proofs.YtibihbclijpkjaaGreatDoor
