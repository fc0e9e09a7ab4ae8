import Derived.Test.YtenaliaefbkbcaaGreatMp
import Derived.Deep.Slices
import Derived.Deep.Strs
import Derived.Deep.SlicePairs
import Derived.ProofKit
import Derived.OpenShut
import Derived.ShutString
import Derived.ChangeOld
import Derived.ChangeSlices
import Derived.ChangeArms
import Derived.Below
namespace Go.Proofs.YtenaliaefbkbcaaGreat.Li
open Go Go.RowKit Go.ChangeShapes Go.WideShapes
set_option linter.unusedSimpArgs false
set_option linter.unusedVariables false
set_option maxRecDepth 100000
section
variable {H : Type} {enc : TypeId × Value → H} {W : World} {base : Nat} {held : Bool}
theorem bplain_add (b off j : Nat) : (⟨b, off, none⟩ : Addr).add j = ⟨b, off + j, none⟩ := by
  unfold Addr.add
  split <;> simp_all
theorem btrod_field {t : TypeId} {fs : Array Field} {fuel : Nat} {cs : List Value} {x : DataW H × List MemPlace} (ht : Tryz.prog.underlying t = some (.struct fs)) (h : DataW.trod enc Tryz.prog W base (fun _ => true) held fuel t cs = some x)
    (i ty off size : Nat) (hf : ∃ f, fs[i]? = some f ∧ f.type = ty ∧ f.offset = off) (hs : Tryz.prog.cellsOf ty = size) : ∃ n y, DataW.trod enc Tryz.prog W base (fun _ => true) held n ty ((cs.drop off).take size) = some y := by
  obtain ⟨xs, n, _, _, _, hl, hx⟩ := DataW.trod_struct ht h
  obtain ⟨f, hf, rfl, rfl⟩ := hf
  subst hs
  have hi : i < fs.size := (Array.getElem?_eq_some_iff.1 hf).1
  exact ⟨n, xs[i]'(by omega), by rw [hx i f hf, List.getElem?_eq_getElem]⟩
theorem bcells3 : Tryz.prog.cellsOf 3 = 1 := by kernel_rfl
theorem bcells4 : Tryz.prog.cellsOf 4 = 1 := by kernel_rfl
theorem bcells9 : Tryz.prog.cellsOf 9 = 1 := by kernel_rfl
theorem bcells28 : Tryz.prog.cellsOf 28 = 1 := by kernel_rfl
theorem bcells30 : Tryz.prog.cellsOf 30 = 4 := by kernel_rfl
theorem bspr {v : Value} {n : Nat} {y : DataW H × List MemPlace} (h : DataW.trod enc Tryz.prog W base (fun _ => true) held n 28 [v] = some y) : ∃ xs, PR W v xs := by
  rcases open_ints Tryz.underlying28 Tryz.underlying5 (by kernel_rfl) h with ⟨hcs, _⟩ | ⟨x, l, c, zs, hcs, _, hl, hm, hz, _, hcell, hwz⟩
  · simp only [List.cons.injEq, and_true] at hcs
    exact ⟨[], .inl ⟨hcs, rfl⟩⟩
  · simp only [List.cons.injEq, and_true] at hcs
    simp at hz
    refine ⟨(List.range l).map (fun i => zs.getD i 0), .inr ⟨x, l, c, hcs, by simp, Nat.le_trans hl hm, fun i hi => ?_⟩⟩
    rw [hcell i (by omega)]
    simp [List.getD_eq_getElem?_getD, List.getElem?_map, List.getElem?_range hi]
/-- One call of a script that comes in. -/
theorem bopen_op {cs : List Value} (hl : cs.length = 10) {n : Nat} {y : DataW H × List MemPlace} (h : DataW.trod enc Tryz.prog W base (fun _ => true) held n 32 cs = some y) : ∃ o : Ow, cs = o.cs.toList ∧ PR W o.v o.xs ∧ (o.t.size ≤ maxLen ∧ o.a.size ≤ maxLen ∧ o.b.size ≤ maxLen) := by
  match cs, hl with
  | [c0, c1, c2, c3, c4, c5, c6, c7, c8, c9], _ =>
    obtain ⟨n0, y0, t0⟩ := btrod_field Tryz.underlying32 h 0 3 0 _ ⟨_, rfl, rfl, rfl⟩ bcells3
    obtain ⟨n1, y1, t1⟩ := btrod_field Tryz.underlying32 h 1 4 1 _ ⟨_, rfl, rfl, rfl⟩ bcells4
    obtain ⟨n2, y2, t2⟩ := btrod_field Tryz.underlying32 h 2 9 2 _ ⟨_, rfl, rfl, rfl⟩ bcells9
    obtain ⟨n3, y3, t3⟩ := btrod_field Tryz.underlying32 h 3 9 3 _ ⟨_, rfl, rfl, rfl⟩ bcells9
    obtain ⟨n4, y4, t4⟩ := btrod_field Tryz.underlying32 h 4 3 4 _ ⟨_, rfl, rfl, rfl⟩ bcells3
    obtain ⟨n5, y5, t5⟩ := btrod_field Tryz.underlying32 h 5 3 5 _ ⟨_, rfl, rfl, rfl⟩ bcells3
    obtain ⟨n6, y6, t6⟩ := btrod_field Tryz.underlying32 h 6 30 6 _ ⟨_, rfl, rfl, rfl⟩ bcells30
    obtain ⟨m0, z0, s0⟩ := btrod_field Tryz.underlying30 t6 0 9 0 _ ⟨_, rfl, rfl, rfl⟩ bcells9
    obtain ⟨m1, z1, s1⟩ := btrod_field Tryz.underlying30 t6 1 28 1 _ ⟨_, rfl, rfl, rfl⟩ bcells28
    obtain ⟨m2, z2, s2⟩ := btrod_field Tryz.underlying30 t6 2 3 2 _ ⟨_, rfl, rfl, rfl⟩ bcells3
    obtain ⟨m3, z3, s3⟩ := btrod_field Tryz.underlying30 t6 3 4 3 _ ⟨_, rfl, rfl, rfl⟩ bcells4
    obtain ⟨k0, e0, w0⟩ := DataW.trod_int Tryz.underlying3 (show DataW.trod enc Tryz.prog W base (fun _ => true) held _ 3 [c0] = _ from t0)
    obtain ⟨k1, e1, w1⟩ := DataW.trod_bool Tryz.underlying4 (show DataW.trod enc Tryz.prog W base (fun _ => true) held _ 4 [c1] = _ from t1)
    obtain ⟨k2, e2, _, w2⟩ := DataW.trod_string Tryz.underlying9 (show DataW.trod enc Tryz.prog W base (fun _ => true) held _ 9 [c2] = _ from t2)
    obtain ⟨k3, e3, _, w3⟩ := DataW.trod_string Tryz.underlying9 (show DataW.trod enc Tryz.prog W base (fun _ => true) held _ 9 [c3] = _ from t3)
    obtain ⟨k4, e4, w4⟩ := DataW.trod_int Tryz.underlying3 (show DataW.trod enc Tryz.prog W base (fun _ => true) held _ 3 [c4] = _ from t4)
    obtain ⟨k5, e5, w5⟩ := DataW.trod_int Tryz.underlying3 (show DataW.trod enc Tryz.prog W base (fun _ => true) held _ 3 [c5] = _ from t5)
    obtain ⟨k6, e6, _, w6⟩ := DataW.trod_string Tryz.underlying9 (show DataW.trod enc Tryz.prog W base (fun _ => true) held _ 9 [c6] = _ from s0)
    obtain ⟨xs, hpr⟩ := bspr (show DataW.trod enc Tryz.prog W base (fun _ => true) held _ 28 [c7] = _ from s1)
    obtain ⟨k8, e8, w8⟩ := DataW.trod_int Tryz.underlying3 (show DataW.trod enc Tryz.prog W base (fun _ => true) held _ 3 [c8] = _ from s2)
    obtain ⟨k9, e9, w9⟩ := DataW.trod_bool Tryz.underlying4 (show DataW.trod enc Tryz.prog W base (fun _ => true) held _ 4 [c9] = _ from s3)
    simp at e0 e1 e2 e3 e4 e5 e6 e8 e9
    subst e0 e1 e2 e3 e4 e5 e6 e8 e9
    exact ⟨⟨k0, k1, k2, k3, k4, k5, k6, c7, xs, k8, k9⟩, rfl, hpr, w6, w2, w3⟩
/-- A script that comes in. -/
theorem bopen_script {a : Option Addr} {len cap : Nat} {d : DataW H} {p : List MemPlace} (hp : ∀ ad, a = some ad → ∃ b off, ad = ⟨b, off, none⟩) (h : DataW.Trod enc Tryz.prog W base (fun _ => true) held 22 (.slice a len cap) d p) : ∃ ops : List Ow, Scs W a len cap ops := by
  obtain ⟨fuel, hf⟩ := h
  have hf' : DataW.trod enc Tryz.prog W base (fun _ => true) held fuel 22 [.slice a len cap] = some (d, p) := hf
  rcases Go.Deep.open_slice Tryz.underlying22 hf' with ⟨hcs, _⟩ | ⟨x, l, c, m, n, D, Q, hcs, _, hl, hm, hmm, _, hx⟩
  · simp only [List.cons.injEq, Value.slice.injEq, and_true] at hcs
    obtain ⟨rfl, rfl, rfl⟩ := hcs
    exact ⟨[], rfl, by unfold maxLen; omega, fun z => absurd z (by omega), by simp, by simp⟩
  · simp only [List.cons.injEq, Value.slice.injEq, and_true] at hcs
    obtain ⟨rfl, rfl, rfl⟩ := hcs
    simp at hmm
    obtain ⟨b, off, rfl⟩ := hp x rfl
    have each : ∀ i, i < m → ∃ o : Ow, (∀ x, x < 10 → W.cell? ⟨b, off + i * 10 + x, none⟩ = o.cs[x]?) ∧ PR W o.v o.xs ∧ (o.t.size ≤ maxLen ∧ o.a.size ≤ maxLen ∧ o.b.size ≤ maxLen) := fun i hi => by
      obtain ⟨cs', h1, h2⟩ := hx i hi
      rw [show Tryz.prog.cellsOf 32 = 10 by kernel_rfl, bplain_add] at h1
      obtain ⟨_, hlen, hcell⟩ := World.cells?_some h1
      obtain ⟨o, e, r⟩ := bopen_op hlen h2
      refine ⟨o, fun x hx10 => ?_, r⟩
      have h3 := hcell x hx10
      rw [bplain_add] at h3
      rw [h3, e]
      simp
    haveI : Inhabited Ow := ⟨⟨0, false, ⟨#[]⟩, ⟨#[]⟩, 0, 0, ⟨#[]⟩, .slice none 0 0, [], 0, false⟩⟩
    obtain ⟨z, hz⟩ := Go.Deep.choose_lt each
    refine ⟨(List.range len).map z, ⟨by simp, Nat.le_trans hl hm, fun _ => ⟨b, off, rfl, fun i hi x hx10 => ?_⟩, fun o ho => ?_, fun o ho => ?_⟩⟩
    · have hi' : i < len := by simpa using hi
      have := (hz i (by omega)).1 x hx10
      simpa using this
    · obtain ⟨i, hi, rfl⟩ := List.mem_map.1 ho
      exact (hz i (by have := List.mem_range.1 hi; omega)).2.1
    · obtain ⟨i, hi, rfl⟩ := List.mem_map.1 ho
      exact (hz i (by have := List.mem_range.1 hi; omega)).2.2
end
end Go.Proofs.YtenaliaefbkbcaaGreat.Li
