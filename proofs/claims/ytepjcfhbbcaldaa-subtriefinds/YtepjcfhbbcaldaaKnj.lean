import Derived.Test.YtepjcfhbbcaldaaKni
import Derived.SizedLaws
import Derived.Deep.Slices
import Derived.Deep.Strs
import Derived.Deep.SlicePairs
import Derived.ChangeSlices
import Derived.ChangeArms
import Derived.ProofKit
import Derived.OpenShut
import Derived.ShutString
import Derived.ChangeOld
import Derived.Below
namespace Go.Proofs.Ytepjcfhbbcaldaa.Li
open Go Go.RowKit Go.ChangeShapes Go.WideShapes
set_option linter.unusedSimpArgs false
set_option linter.unusedVariables false
set_option maxRecDepth 100000
section
variable {H : Type} {enc : TypeId × Value → H} {W : World} {base : Nat} {held : Bool}
/-- All that a datum holds is within the reach. -/
def Wk (t : TypeId) (d : DataW H) : Prop := ∀ x ∈ d.weights Try.prog t, x ≤ reachBytes
theorem wtrod_field {t : TypeId} {fs : Array Field} {fuel : Nat} {cs : List Value} {x : DataW H × List MemPlace} (ht : Try.prog.underlying t = some (.struct fs)) (h : DataW.trod enc Try.prog W base (fun _ => true) held fuel t cs = some x) (hw : Wk t x.1)
    (i ty off size : Nat) (hf : ∃ f, fs[i]? = some f ∧ f.type = ty ∧ f.offset = off) (hs : Try.prog.cellsOf ty = size) : ∃ n y, DataW.trod enc Try.prog W base (fun _ => true) held n ty ((cs.drop off).take size) = some y ∧ Wk ty y.1 := by
  obtain ⟨xs, n, _, hx0, _, hl, hx⟩ := DataW.trod_struct ht h
  obtain ⟨f, hf, rfl, rfl⟩ := hf
  subst hs
  have hi : i < fs.size := (Array.getElem?_eq_some_iff.1 hf).1
  refine ⟨n, xs[i]'(by omega), by rw [hx i f hf, List.getElem?_eq_getElem], fun z hz => hw z ?_⟩
  rw [hx0]
  have e : (DataW.agg (xs.map (·.1)) : DataW H).weights Try.prog t = DataW.weightsEach Try.prog (fs.toList.map (·.type)) (xs.map (·.1)) := by simp [DataW.weights, ht]
  rw [show ((DataW.agg (xs.map (·.1)) : DataW H), xs.flatMap (·.2)).1 = DataW.agg (xs.map (·.1)) from rfl, e]
  refine DataW.weights_mem_each (j := i) (t := f.type) (d := (xs[i]'(by omega)).1) ?_ ?_ z hz
  · simp [hf]
  · simp [show i < xs.length by omega]
theorem wk_all {e : TypeId} : ∀ {el : List (DataW H)} {d : DataW H}, d ∈ el → ∀ x ∈ d.weights Try.prog e, x ∈ DataW.weightsAll Try.prog e el
  | d0 :: r, d, hd, x, hx => by
    rw [DataW.weightsAll]
    rcases List.mem_cons.1 hd with rfl | h
    · exact List.mem_append.2 (.inl hx)
    · exact List.mem_append.2 (.inr (wk_all h x hx))
theorem wk_elem {t e : TypeId} {el sp : List (DataW H)} {d : DataW H} (ht : Try.prog.underlying t = some (.slice e)) (hw : Wk t (.slice el sp)) (hd : d ∈ el) : Wk e d := fun x hx => hw x (by
  have := wk_all hd x hx
  simp only [DataW.weights, ht]
  exact List.mem_cons_of_mem _ (List.mem_append.2 (.inl this)))
theorem reach_is : reachBytes = 140737488351232 := by decide
theorem bplain_add (b off j : Nat) : (⟨b, off, none⟩ : Addr).add j = ⟨b, off + j, none⟩ := by
  unfold Addr.add
  split <;> simp_all
theorem bcells3 : Try.prog.cellsOf 3 = 1 := by kernel_rfl
theorem bcells9 : Try.prog.cellsOf 9 = 1 := by kernel_rfl
theorem str_size {s : ByteArray} : s.data.toList.length = s.size := Array.length_toList
theorem open_sub {cs : List Value} (hl : cs.length = 3) {n : Nat} {y : DataW H × List MemPlace} (h : DataW.trod enc Try.prog W base (fun _ => true) held n 34 cs = some y) (hw : Wk 34 y.1) : ∃ s : Sb, cs = [.string s.f, .string s.x, .int .i64 s.q] ∧ s.f.size ≤ 140737488355328 ∧ s.x.size ≤ 140737488355328 := by
  match cs, hl with
  | [c0, c1, c2], _ =>
    obtain ⟨n0, y0, t0, k0⟩ := wtrod_field Try.underlying34 h hw 0 9 0 _ ⟨_, rfl, rfl, rfl⟩ bcells9
    obtain ⟨n1, y1, t1, k1⟩ := wtrod_field Try.underlying34 h hw 1 9 1 _ ⟨_, rfl, rfl, rfl⟩ bcells9
    obtain ⟨n2, y2, t2, k2⟩ := wtrod_field Try.underlying34 h hw 2 3 2 _ ⟨_, rfl, rfl, rfl⟩ bcells3
    obtain ⟨s0, e0, g0, w0⟩ := DataW.trod_string Try.underlying9 (show DataW.trod enc Try.prog W base (fun _ => true) held _ 9 [c0] = _ from t0)
    obtain ⟨s1, e1, g1, w1⟩ := DataW.trod_string Try.underlying9 (show DataW.trod enc Try.prog W base (fun _ => true) held _ 9 [c1] = _ from t1)
    obtain ⟨s2, e2, w2⟩ := DataW.trod_int Try.underlying3 (show DataW.trod enc Try.prog W base (fun _ => true) held _ 3 [c2] = _ from t2)
    simp at e0 e1 e2
    subst e0 e1 e2
    refine ⟨⟨s0, s1, s2⟩, rfl, ?_, ?_⟩
    · rw [g0] at k0
      have := k0 s0.data.toList.length (by simp [DataW.weights])
      rw [reach_is, str_size] at this
      show s0.size ≤ _
      omega
    · rw [g1] at k1
      have := k1 s1.data.toList.length (by simp [DataW.weights])
      rw [reach_is, str_size] at this
      show s1.size ≤ _
      omega
theorem open_subs {a : Option Addr} {len cap : Nat} {d : DataW H} {p : List MemPlace} (hp : ∀ ad, a = some ad → ∃ b off, ad = ⟨b, off, none⟩) (h : DataW.Trod enc Try.prog W base (fun _ => true) held 22 (.slice a len cap) d p) (hw : Wk 22 d) : ∃ l : List Sb, SbAt W (.slice a len cap) l ∧ ∀ s ∈ l, s.f.size ≤ 140737488355328 ∧ s.x.size ≤ 140737488355328 := by
  obtain ⟨fuel, hf⟩ := h
  have hf' : DataW.trod enc Try.prog W base (fun _ => true) held fuel 22 [.slice a len cap] = some (d, p) := hf
  rcases Go.Deep.open_slice Try.underlying22 hf' with ⟨hcs, _⟩ | ⟨x, l, c, m, n, D, Q, hcs, _, hl, hm, hmm, hx0, hx⟩
  · simp only [List.cons.injEq, Value.slice.injEq, and_true] at hcs
    obtain ⟨rfl, rfl, rfl⟩ := hcs
    exact ⟨[], ⟨⟨_, _, _, rfl, rfl, Nat.le_refl _, fun c => (c rfl).elim⟩⟩, fun s hs => by cases hs⟩
  · simp only [List.cons.injEq, Value.slice.injEq, and_true] at hcs
    obtain ⟨rfl, rfl, rfl⟩ := hcs
    simp at hmm
    obtain ⟨b, off, rfl⟩ := hp x rfl
    have hd : d = .slice ((List.range len).map D) ((List.range (m - len)).map fun j => D (len + j)) := congrArg Prod.fst hx0
    rw [hd] at hw
    have each : ∀ i, i < len → ∃ s : Sb, (W.cell? ⟨b, off + i * 3, none⟩ = some (.string s.f) ∧ W.cell? ⟨b, off + i * 3 + 1, none⟩ = some (.string s.x) ∧ W.cell? ⟨b, off + i * 3 + 2, none⟩ = some (.int .i64 s.q)) ∧ s.f.size ≤ 140737488355328 ∧ s.x.size ≤ 140737488355328 := fun i hi => by
      obtain ⟨cs', h1, h2⟩ := hx i (by omega)
      rw [show Try.prog.cellsOf 34 = 3 by kernel_rfl, bplain_add] at h1
      obtain ⟨_, hlen, hcell⟩ := World.cells?_some h1
      obtain ⟨s, e, r⟩ := open_sub hlen h2 (wk_elem Try.underlying22 hw (List.mem_map.2 ⟨i, List.mem_range.2 hi, rfl⟩))
      have h0 := hcell 0 (by omega)
      have h1 := hcell 1 (by omega)
      have h2 := hcell 2 (by omega)
      rw [bplain_add, e] at h0 h1 h2
      exact ⟨s, ⟨h0, h1, h2⟩, r⟩
    haveI : Inhabited Sb := ⟨⟨⟨#[]⟩, ⟨#[]⟩, 0⟩⟩
    obtain ⟨z, hz⟩ := Go.Deep.choose_lt each
    refine ⟨(List.range len).map z, ⟨⟨_, _, _, rfl, by simp, hl, fun hne => ⟨b, off, rfl, ?_, fun i s hs => ?_⟩⟩⟩, fun s hs => ?_⟩
    · have h0 : 0 < len := by
        rcases Nat.eq_zero_or_pos len with e | e
        · rw [e] at hne; exact (hne rfl).elim
        · exact e
      exact World.block_lt_of_cell? _ _ (hz 0 h0).1.1
    · have hi : i < len := by have := (List.getElem?_eq_some_iff.1 hs).1; simpa using this
      rw [List.getElem?_map, List.getElem?_range hi] at hs
      simp at hs
      subst hs
      exact (hz i hi).1
    · obtain ⟨i, hi, rfl⟩ := List.mem_map.1 hs
      exact (hz i (List.mem_range.1 hi)).2
end
end Go.Proofs.Ytepjcfhbbcaldaa.Li
