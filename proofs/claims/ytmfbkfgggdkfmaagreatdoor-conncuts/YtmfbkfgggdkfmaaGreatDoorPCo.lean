import Derived.Test.YtmfbkfgggdkfmaaGreatDoorPFs
import Derived.Test.YtmfbkfgggdkfmaaGreatDoorFrg
import Derived.Deep.DeepHandedRow
import Derived.SevenTiedAt
import Derived.ChangeSlices
import Derived.ChangeArms
import Derived.Carry
namespace Go.Proofs.YtmfbkfgggdkfmaaGreatDoor.Co
open Go Go.ChangeShapes Go.WideShapes Go.ChangeAt Go.RowKit
open Pkt (Gd Sl Is)
set_option linter.unusedSimpArgs false
set_option linter.unusedVariables false
/-! ### What comes in -/
def IsRow (k : IntKind) (w : World) (a : Option Addr) (len cap : Nat) (zs : List Int) : Prop :=
  (a = none ∧ len = 0 ∧ cap = 0 ∧ zs = []) ∨
  ∃ x, a = some x ∧ len ≤ cap ∧ cap ≤ maxLen ∧ zs.length = cap ∧ (∀ i, i < zs.length → w.cell? (x.add i) = some (.int k (zs.getD i 0))) ∧ ∀ n ∈ zs, (Lit.int k n).wf = true

theorem isRow_is {w : World} {a : Option Addr} {len cap : Nat} {zs : List Int} (h : IsRow .i64 w a len cap zs) (hp : Plain a) : Is w ⟨a, len, cap⟩ (fun i => zs.getD i 0) ∧ len ≤ 9223372036854775807 := by
  rcases h with ⟨rfl, rfl, rfl, rfl⟩ | ⟨x, rfl, hl, hm, hz, hcell, hwz⟩
  · exact ⟨⟨Nat.le_refl _, .inl rfl⟩, by decide⟩
  · obtain ⟨g, off, rfl⟩ := hp x rfl
    refine ⟨⟨hl, .inr ⟨g, off, rfl, fun i hi => ?_⟩⟩, by unfold maxLen at hm; omega⟩
    have hi' : i < len := hi
    have := hcell i (by omega)
    rw [plain_add] at this
    exact this
theorem open_row {H : Type} {enc : TypeId × Value → H} {W : World} {base : Nat} {held : Bool} {a : Option Addr} {len cap : Nat} {d : DataW H} {p : List MemPlace} (h : DataW.Trod enc Tryz.prog W base (fun _ => true) held 22 (.slice a len cap) d p) : ∃ zs, IsRow .u8 W a len cap zs := by
  obtain ⟨fuel, hf⟩ := h
  rcases open_ints Tryz.underlying22 Tryz.underlying5 (by kernel_rfl) hf with ⟨hcs, _⟩ | ⟨x, l, c, zs, hcs, _, hl, hm, hz, _, hcell, hwz⟩
  · simp [Value.cells] at hcs
    obtain ⟨rfl, rfl, rfl⟩ := hcs
    exact ⟨[], .inl ⟨rfl, rfl, rfl, rfl⟩⟩
  · simp [Value.cells] at hcs
    obtain ⟨rfl, rfl, rfl⟩ := hcs
    exact ⟨zs, .inr ⟨_, rfl, hl, hm, by simpa using hz, hcell, hwz⟩⟩
theorem open_nums {H : Type} {enc : TypeId × Value → H} {W : World} {base : Nat} {held : Bool} {a : Option Addr} {len cap : Nat} {d : DataW H} {p : List MemPlace} (h : DataW.Trod enc Tryz.prog W base (fun _ => true) held 23 (.slice a len cap) d p) : ∃ zs, IsRow .i64 W a len cap zs := by
  obtain ⟨fuel, hf⟩ := h
  rcases open_ints Tryz.underlying23 Tryz.underlying3 (by kernel_rfl) hf with ⟨hcs, _⟩ | ⟨x, l, c, zs, hcs, _, hl, hm, hz, _, hcell, hwz⟩
  · simp [Value.cells] at hcs
    obtain ⟨rfl, rfl, rfl⟩ := hcs
    exact ⟨[], .inl ⟨rfl, rfl, rfl, rfl⟩⟩
  · simp [Value.cells] at hcs
    obtain ⟨rfl, rfl, rfl⟩ := hcs
    exact ⟨zs, .inr ⟨_, rfl, hl, hm, by simpa using hz, hcell, hwz⟩⟩
set_option maxRecDepth 100000 in
theorem open_plain {W : World} {base : Nat} {a : Option Addr} {len cap : Nat} (h : Value.okWide Tryz.prog W .any base 22 (.slice a len cap)) : Plain a := by
  intro ad e
  subst e
  unfold Value.okWide at h
  rw [Tryz.underlying22] at h
  have h' : Cell.okWide Tryz.prog W .any base 22 (.slice (some ad) len cap) := h
  unfold Cell.okWide at h'
  rw [Tryz.underlying22] at h'
  simp only [Cell.ok, Tryz.underlying22] at h'
  obtain ⟨h1, h2, _, h3, _⟩ := h'
  obtain ⟨b, off, spot⟩ := ad
  simp only at h3
  subst h3
  exact ⟨b, off, rfl⟩
set_option maxRecDepth 100000 in
theorem open_plain23 {W : World} {base : Nat} {a : Option Addr} {len cap : Nat} (h : Value.okWide Tryz.prog W .any base 23 (.slice a len cap)) : Plain a := by
  intro ad e
  subst e
  unfold Value.okWide at h
  rw [Tryz.underlying23] at h
  have h' : Cell.okWide Tryz.prog W .any base 23 (.slice (some ad) len cap) := h
  unfold Cell.okWide at h'
  rw [Tryz.underlying23] at h'
  simp only [Cell.ok, Tryz.underlying23] at h'
  obtain ⟨h1, h2, _, h3, _⟩ := h'
  obtain ⟨b, off, spot⟩ := ad
  simp only at h3
  subst h3
  exact ⟨b, off, rfl⟩

end Go.Proofs.YtmfbkfgggdkfmaaGreatDoor.Co
