import Derived.Test.YtglnldopnoafoaaGreatDoorClk
import Derived.SliceStrings
import Derived.ProofKit
import Derived.OpenShut
import Derived.ShutString
import Derived.ChangeOld
import Derived.Below
namespace Go.Proofs.YtglnldopnoafoaaGreatDoor
open Go Go.RowKit Go.ChangeShapes Go.WideShapes
set_option linter.unusedSimpArgs false
set_option linter.unusedVariables false
set_option maxRecDepth 100000

theorem plain_cell {W : World} {x : Addr} {v : Value} (h : W.cell? (x.add 0) = some v) : ∃ b off, x = ⟨b, off, none⟩ ∧ b < W.heap.size := by
  obtain ⟨b, off, spot⟩ := x
  have hs : spot = none := by simpa [Addr.add] using World.cell?_spot h
  subst hs
  refine ⟨b, off, rfl, ?_⟩
  rcases Nat.lt_or_ge b W.heap.size with q | q
  · exact q
  · rw [Rm.plain_add] at h
    simp [World.cell?, Array.getElem?_eq_none q] at h
section
variable {H : Type} {enc : TypeId × Value → H} {W : World} {base : Nat} {held : Bool}
/-- What a slice of texts that came in is. -/
theorem open_texts {a : Option Addr} {len cap : Nat} {d : DataW H} {p : List MemPlace} (h : DataW.Trod enc Tryz.prog W base (fun _ => true) held 22 (.slice a len cap) d p) :
    ∃ (xs : List ByteArray) (z : Nat → ByteArray), len = xs.length ∧ (∀ j, j < len → xs[j]? = some (z j)) ∧ Row W (.slice a len cap) xs ∧ Rm.Came W a len cap z ∧ len ≤ maxLen ∧ ∀ x ∈ xs, x.size ≤ maxLen := by
  obtain ⟨fuel, hf⟩ := h
  rcases open_strings Tryz.underlying22 Tryz.underlying9 (by kernel_rfl) hf with ⟨hcs, _⟩ | ⟨x, l, c, ss, hcs, _, hl, hm, hz, _, hcell, hsz⟩
  · simp [Value.cells] at hcs
    obtain ⟨rfl, rfl, rfl⟩ := hcs
    exact ⟨[], fun _ => ⟨#[]⟩, rfl, fun j hj => by omega, ⟨none, 0, 0, rfl, rfl, Nat.le_refl _, fun q => absurd rfl q⟩, ⟨Nat.le_refl _, trivial, .inl ⟨rfl, rfl, rfl⟩⟩, by unfold maxLen; omega, fun x hx => by simp at hx⟩
  · simp [Value.cells] at hcs
    obtain ⟨rfl, rfl, rfl⟩ := hcs
    have hz' : ss.length = cap := by simpa using hz
    have hlen : len = (ss.take len).length := by simp; omega
    have hat : ∀ j, j < len → (ss.take len)[j]? = some (ss.getD j ByteArray.empty) := fun j hj => by
      rw [List.getElem?_take_of_lt hj]
      have : j < ss.length := by omega
      simp [List.getD, this]
    refine ⟨ss.take len, fun i => ss.getD i ByteArray.empty, hlen, hat, ?_, ⟨hl, trivial, .inr ⟨_, rfl, fun i hi => hcell i (by omega)⟩⟩, by omega, fun y hy => hsz y (List.mem_of_mem_take hy)⟩
    refine ⟨_, len, cap, rfl, hlen, hl, fun hne => ?_⟩
    have hpos : 0 < len := by
      rcases Nat.eq_zero_or_pos len with q | q
      · rw [q] at hne; simp at hne
      · exact q
    obtain ⟨b, off, rfl, hb⟩ := plain_cell (hcell 0 (by omega))
    refine ⟨b, off, rfl, hb, fun k y hk => ?_⟩
    have hk' : k < len := by rw [hlen]; exact (List.getElem?_eq_some_iff.1 hk).1
    have h1 := hcell k (by omega)
    rw [Rm.plain_add] at h1
    rw [hat k hk'] at hk
    rw [h1, Option.some.inj hk]
end
end Go.Proofs.YtglnldopnoafoaaGreatDoor
