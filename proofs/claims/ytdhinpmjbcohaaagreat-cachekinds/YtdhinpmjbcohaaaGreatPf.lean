import Derived.Test.YtdhinpmjbcohaaaGreatOd
import Derived.Deep.Slices
import Derived.ProofKit
import Derived.OpenShut
import Derived.ShutString
import Derived.ChangeOld
import Derived.Below
namespace Go.Proofs.YtdhinpmjbcohaaaGreat
open Go Go.RowKit Go.ChangeShapes Go.WideShapes
set_option linter.unusedSimpArgs false
set_option linter.unusedVariables false
set_option maxRecDepth 100000

section
variable {H : Type} {enc : TypeId × Value → H} {W : World} {base : Nat} {held : Bool}
theorem plain_add (b off j : Nat) : (⟨b, off, none⟩ : Addr).add j = ⟨b, off + j, none⟩ := by
 unfold Addr.add
 split <;> simp_all
theorem plain_two {x : Addr} {v : Value} (h : W.cell? ((x.add 0).add 0) = some v) : ∃ b off, x = ⟨b, off, none⟩ := by
 obtain ⟨b, off, spot⟩ := x
 cases spot with
 | none => exact ⟨b, off, rfl⟩
 | some s =>
  unfold World.cell? Addr.add at h
  simp at h
  split at h <;> simp at h
theorem trod_field {t : TypeId} {fs : Array Field} {fuel : Nat} {cs : List Value} {x : DataW H × List MemPlace} (ht : Tryz.prog.underlying t = some (.struct fs)) (h : DataW.trod enc Tryz.prog W base (fun _ => true) held fuel t cs = some x)
  (i ty off size : Nat) (hf : ∃ f, fs[i]? = some f ∧ f.type = ty ∧ f.offset = off) (hs : Tryz.prog.cellsOf ty = size) : ∃ n y, DataW.trod enc Tryz.prog W base (fun _ => true) held n ty ((cs.drop off).take size) = some y := by
 obtain ⟨xs, n, _, _, _, hl, hx⟩ := DataW.trod_struct ht h
 obtain ⟨f, hf, rfl, rfl⟩ := hf
 subst hs
 have hi : i < fs.size := (Array.getElem?_eq_some_iff.1 hf).1
 exact ⟨n, xs[i]'(by omega), by rw [hx i f hf, List.getElem?_eq_getElem]⟩
theorem cells50 : Tryz.prog.cellsOf 50 = 6 := by kernel_rfl
theorem cells4 : Tryz.prog.cellsOf 4 = 1 := by kernel_rfl
theorem open_op {cs : List Value} (hl : cs.length = 6) {n : Nat} {y : DataW H × List MemPlace} (h : DataW.trod enc Tryz.prog W base (fun _ => true) held n 50 cs = some y) : ∃ p : Op8, cs = opc p ∧ okOp p := by
 match cs, hl with
 | [c0, c1, c2, c3, c4, c5], _ =>
  obtain ⟨n0, y0, t0⟩ := trod_field Tryz.underlying50 h 0 3 0 _ ⟨_, rfl, rfl, rfl⟩ Ka.cells3
  obtain ⟨n1, y1, t1⟩ := trod_field Tryz.underlying50 h 1 4 1 _ ⟨_, rfl, rfl, rfl⟩ cells4
  obtain ⟨n2, y2, t2⟩ := trod_field Tryz.underlying50 h 2 31 2 _ ⟨_, rfl, rfl, rfl⟩ Ka.cells31
  obtain ⟨n3, y3, t3⟩ := trod_field Tryz.underlying50 h 3 3 4 _ ⟨_, rfl, rfl, rfl⟩ Ka.cells3
  obtain ⟨n4, y4, t4⟩ := trod_field Tryz.underlying50 h 4 3 5 _ ⟨_, rfl, rfl, rfl⟩ Ka.cells3
  obtain ⟨m0, z0, s0⟩ := trod_field Tryz.underlying31 t2 0 9 0 _ ⟨_, rfl, rfl, rfl⟩ Ka.cells9
  obtain ⟨m1, z1, s1⟩ := trod_field Tryz.underlying31 t2 1 3 1 _ ⟨_, rfl, rfl, rfl⟩ Ka.cells3
  obtain ⟨k0, e0, w0⟩ := DataW.trod_int Tryz.underlying3 t0
  obtain ⟨k1, e1, w1⟩ := DataW.trod_bool Tryz.underlying4 t1
  obtain ⟨k2, e2, w2⟩ := DataW.trod_string Tryz.underlying9 s0
  obtain ⟨k3, e3, w3⟩ := DataW.trod_int Tryz.underlying3 s1
  obtain ⟨k4, e4, w4⟩ := DataW.trod_int Tryz.underlying3 t3
  obtain ⟨k5, e5, w5⟩ := DataW.trod_int Tryz.underlying3 t4
  simp at e0 e1 e2 e3 e4 e5
  subst e0 e1 e2 e3 e4 e5
  refine ⟨⟨k0, k1, (k2, k3), k4, k5⟩, rfl, ⟨?_, ?_⟩, ?_⟩
  ·
   exact w2.2
  ·
   exact w3.2
  ·
   exact w4.2
theorem open_script {a : Option Addr} {len cap : Nat} {d : DataW H} {p : List MemPlace} (h : DataW.Trod enc Tryz.prog W base (fun _ => true) held 22 (.slice a len cap) d p) : ∃ ops : List Op8, len = ops.length ∧ len ≤ cap ∧ ScR W a ops ∧ ∀ p ∈ ops, okOp p := by
 obtain ⟨fuel, hf⟩ := h
 have hf' : DataW.trod enc Tryz.prog W base (fun _ => true) held fuel 22 [.slice a len cap] = some (d, p) := hf
 rcases Go.Deep.open_slice Tryz.underlying22 hf' with ⟨hcs, _⟩ | ⟨x, l, c, m, n, D, Q, hcs, _, hl, hm, hmm, _, hx⟩
 ·
  simp only [List.cons.injEq, Value.slice.injEq, and_true] at hcs
  obtain ⟨rfl, rfl, rfl⟩ := hcs
  exact ⟨[], rfl, Nat.le_refl _, fun q => absurd rfl q, by simp⟩
 ·
  simp only [List.cons.injEq, Value.slice.injEq, and_true] at hcs
  obtain ⟨rfl, rfl, rfl⟩ := hcs
  simp at hmm
  have each : ∀ i, i < m → ∃ z : Op8, (∀ q u, (opc z)[q]? = some u → W.cell? ((x.add (i * 6)).add q) = some u) ∧ okOp z := fun i hi => by
   obtain ⟨cs', h1, h2⟩ := hx i hi
   rw [cells50] at h1
   obtain ⟨_, hlen, hcell⟩ := World.cells?_some h1
   obtain ⟨z, e, hok⟩ := open_op hlen h2
   refine ⟨z, fun q u hu => ?_, hok⟩
   have hv' : cs'[q]? = some u := by rw [e]; exact hu
   have hj : q < 6 := by have := (List.getElem?_eq_some_iff.1 hv').1; omega
   rw [hcell q hj, hv']
  haveI : Inhabited Op8 := ⟨⟨0, false, (⟨#[]⟩, 0), 0, 0⟩⟩
  obtain ⟨z, hz⟩ := Go.Deep.choose_lt each
  refine ⟨(List.range len).map z, by simp, hl, fun hne => ?_, fun q hq => ?_⟩
  ·
   have hpos : 0 < len := by
    rcases Nat.eq_zero_or_pos len with q | q
    ·
     subst q
     exact absurd rfl hne
    ·
     exact q
   have h0 := (hz 0 (by omega)).1 0 _ rfl
   rw [Nat.zero_mul] at h0
   obtain ⟨b, off, rfl⟩ := plain_two h0
   refine ⟨b, off, rfl, fun j p hp q u hu => ?_⟩
   have hj : j < len := by
    have := (List.getElem?_eq_some_iff.1 hp).1
    simpa using this
   have hpz : p = z j := by
    simp [hj] at hp
    exact hp.symm
   subst hpz
   have h3 := (hz j (by omega)).1 q u hu
   rw [plain_add, plain_add] at h3
   exact h3
  ·
   obtain ⟨j, hj, rfl⟩ := List.mem_map.1 hq
   have hj' : j < len := by simpa using hj
   exact (hz j (by omega)).2
end
end Go.Proofs.YtdhinpmjbcohaaaGreat
