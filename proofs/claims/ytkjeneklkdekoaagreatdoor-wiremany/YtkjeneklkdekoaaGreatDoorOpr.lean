import Derived.Test.YtkjeneklkdekoaaGreatDoorRdt
import Derived.Deep.Slices
import Derived.ProofKit
import Derived.OpenShut
import Derived.ShutString
import Derived.ChangeOld
import Derived.Below
namespace Go.Proofs.YtkjeneklkdekoaaGreatDoor
open Go Go.RowKit Go.ChangeShapes Go.WideShapes
set_option linter.unusedSimpArgs false
set_option linter.unusedVariables false
set_option maxRecDepth 100000

section
variable {H : Type} {enc : TypeId × Value → H} {W : World} {base : Nat} {held : Bool}
/-- What a slice of bytes that came in is. -/
theorem open_bytes {a : Option Addr} {len cap : Nat} {d : DataW H} {p : List MemPlace} (h : DataW.Trod enc Tryz.prog W base (fun _ => true) held 22 (.slice a len cap) d p) : ∃ z, Came W a len cap z := by
  obtain ⟨fuel, hf⟩ := h
  rcases open_ints Tryz.underlying22 Tryz.underlying5 (by kernel_rfl) hf with ⟨hcs, _⟩ | ⟨x, l, c, zs, hcs, _, hl, hm, hz, _, hcell, hwz⟩
  · simp [Value.cells] at hcs
    obtain ⟨rfl, rfl, rfl⟩ := hcs
    exact ⟨fun _ => 0, Nat.le_refl _, fun i => by simp, .inl ⟨rfl, rfl, rfl⟩⟩
  · simp [Value.cells] at hcs
    obtain ⟨rfl, rfl, rfl⟩ := hcs
    have hz' : zs.length = cap := by simpa using hz
    refine ⟨fun i => zs.getD i 0, hl, fun i => ?_, .inr ⟨_, rfl, fun i hi => hcell i (by omega)⟩⟩
    have h := range_u8 hwz i
    simpa using h
theorem plain_two {x : Addr} {v : Value} (h : W.cell? ((x.add 0).add 0) = some v) : ∃ b off, x = ⟨b, off, none⟩ := by
  obtain ⟨b, off, spot⟩ := x
  cases spot with
  | none => exact ⟨b, off, rfl⟩
  | some s =>
    unfold World.cell? Addr.add at h
    simp at h
    split at h <;> simp at h
theorem trod_field {t : TypeId} {fs : Array Field} {fuel : Nat} {cs : List Value} {x : DataW H × List MemPlace} (ht : Tryz.prog.underlying t = some (.struct fs)) (h : DataW.trod enc Tryz.prog W base (fun _ => true) held fuel t cs = some x)
    (i ty off size : Nat) (hf : ∃ f, fs[i]? = some f ∧ f.type = ty ∧ f.offset = off) (hs : Tryz.prog.cellsOf ty = size) : ∃ n y, DataW.trod enc Tryz.prog W base (fun _ => true) held n ty ((cs.drop off).take size) = some y := by
  obtain ⟨xs, n, _, _, _, hl, hx⟩ := DataW.trod_struct ht h
  obtain ⟨f, hf, rfl, rfl⟩ := hf
  subst hs
  have hi : i < fs.size := (Array.getElem?_eq_some_iff.1 hf).1
  exact ⟨n, xs[i]'(by omega), by rw [hx i f hf, List.getElem?_eq_getElem]⟩
theorem cells63 : Tryz.prog.cellsOf 63 = 2 := by kernel_rfl
theorem cells4 : Tryz.prog.cellsOf 4 = 1 := by kernel_rfl
theorem cells3 : Tryz.prog.cellsOf 3 = 1 := by kernel_rfl
/-- One call of a script that comes in. -/
theorem open_op {cs : List Value} (hl : cs.length = 2) {n : Nat} {y : DataW H × List MemPlace} (h : DataW.trod enc Tryz.prog W base (fun _ => true) held n 63 cs = some y) : ∃ p : Int × Bool, cs = [.int .i64 p.1, .bool p.2] := by
  match cs, hl with
  | [c0, c1], _ =>
    obtain ⟨n0, y0, t0⟩ := trod_field Tryz.underlying63 h 0 3 0 _ ⟨_, rfl, rfl, rfl⟩ cells3
    obtain ⟨n1, y1, t1⟩ := trod_field Tryz.underlying63 h 1 4 1 _ ⟨_, rfl, rfl, rfl⟩ cells4
    obtain ⟨k0, e0, w0⟩ := DataW.trod_int Tryz.underlying3 t0
    obtain ⟨k1, e1, w1⟩ := DataW.trod_bool Tryz.underlying4 t1
    simp at e0 e1
    subst e0 e1
    exact ⟨⟨k0, k1⟩, rfl⟩
/-- A script that comes in. -/
theorem open_script {a : Option Addr} {len cap : Nat} {d : DataW H} {p : List MemPlace} (h : DataW.Trod enc Tryz.prog W base (fun _ => true) held 54 (.slice a len cap) d p) : ∃ ops : List (Int × Bool), len = ops.length ∧ len ≤ cap ∧ ScR W a ops := by
  obtain ⟨fuel, hf⟩ := h
  have hf' : DataW.trod enc Tryz.prog W base (fun _ => true) held fuel 54 [.slice a len cap] = some (d, p) := hf
  rcases Go.Deep.open_slice Tryz.underlying54 hf' with ⟨hcs, _⟩ | ⟨x, l, c, m, n, D, Q, hcs, _, hl, hm, hmm, _, hx⟩
  · simp only [List.cons.injEq, Value.slice.injEq, and_true] at hcs
    obtain ⟨rfl, rfl, rfl⟩ := hcs
    exact ⟨[], rfl, Nat.le_refl _, fun q => absurd rfl q⟩
  · simp only [List.cons.injEq, Value.slice.injEq, and_true] at hcs
    obtain ⟨rfl, rfl, rfl⟩ := hcs
    simp at hmm
    have each : ∀ i, i < m → ∃ z : Int × Bool, W.cell? ((x.add (i * 2)).add 0) = some (.int .i64 z.1) ∧ W.cell? ((x.add (i * 2)).add 1) = some (.bool z.2) := fun i hi => by
      obtain ⟨cs', h1, h2⟩ := hx i hi
      rw [cells63] at h1
      obtain ⟨_, hlen, hcell⟩ := World.cells?_some h1
      obtain ⟨z, e⟩ := open_op hlen h2
      refine ⟨z, ?_, ?_⟩
      · rw [hcell 0 (by omega), e]
        rfl
      · rw [hcell 1 (by omega), e]
        rfl
    haveI : Inhabited (Int × Bool) := ⟨(0, false)⟩
    obtain ⟨z, hz⟩ := Go.Deep.choose_lt each
    refine ⟨(List.range len).map z, by simp, hl, fun hne => ?_⟩
    have hpos : 0 < len := by
      rcases Nat.eq_zero_or_pos len with q | q
      · subst q
        exact absurd rfl hne
      · exact q
    have h0 := (hz 0 (by omega)).1
    rw [Nat.zero_mul] at h0
    obtain ⟨b, off, rfl⟩ := plain_two h0
    refine ⟨b, off, rfl, fun j k q hp => ?_⟩
    have hj : j < len := by
      have := (List.getElem?_eq_some_iff.1 hp).1
      simpa using this
    have hpz : z j = (k, q) := by
      simp [hj] at hp
      exact hp
    have h3 := hz j (by omega)
    rw [hpz, plain_add, plain_add, plain_add, Nat.add_zero] at h3
    exact h3
end
end Go.Proofs.YtkjeneklkdekoaaGreatDoor
