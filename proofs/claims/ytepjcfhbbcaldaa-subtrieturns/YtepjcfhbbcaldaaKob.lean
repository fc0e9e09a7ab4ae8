import Derived.Test.YtepjcfhbbcaldaaKni
import Derived.SizedLaws
import Derived.Deep.Slices
import Derived.Deep.Strs
import Derived.Deep.SlicePairs
import Derived.ChangeSlices
import Derived.ChangeArms
import Derived.ProofKit
import Derived.OpenShut
import Derived.ShutString
import Derived.ChangeOld
import Derived.Below
import Derived.Test.YtepjcfhbbcaldaaKnf
import Derived.Deep.RegionHeldLaw
namespace Go.Proofs.Ytepjcfhbbcaldaa.Li
open Go Go.RowKit Go.ChangeShapes Go.WideShapes
set_option linter.unusedSimpArgs false
set_option linter.unusedVariables false
set_option maxRecDepth 100000
section
variable {H : Type} {enc : TypeId × Value → H} {W : World} {base : Nat} {held : Bool}
/-- All that a datum holds is within the reach. -/
def Wk (t : TypeId) (d : DataW H) : Prop := ∀ x ∈ d.weights Try.prog t, x ≤ reachBytes
theorem wtrod_field {t : TypeId} {fs : Array Field} {fuel : Nat} {cs : List Value} {x : DataW H × List MemPlace} (ht : Try.prog.underlying t = some (.struct fs)) (h : DataW.trod enc Try.prog W base (fun _ => true) held fuel t cs = some x) (hw : Wk t x.1)
    (i ty off size : Nat) (hf : ∃ f, fs[i]? = some f ∧ f.type = ty ∧ f.offset = off) (hs : Try.prog.cellsOf ty = size) : ∃ n y, DataW.trod enc Try.prog W base (fun _ => true) held n ty ((cs.drop off).take size) = some y ∧ Wk ty y.1 := by
  obtain ⟨xs, n, _, hx0, _, hl, hx⟩ := DataW.trod_struct ht h
  obtain ⟨f, hf, rfl, rfl⟩ := hf
  subst hs
  have hi : i < fs.size := (Array.getElem?_eq_some_iff.1 hf).1
  refine ⟨n, xs[i]'(by omega), by rw [hx i f hf, List.getElem?_eq_getElem], fun z hz => hw z ?_⟩
  rw [hx0]
  have e : (DataW.agg (xs.map (·.1)) : DataW H).weights Try.prog t = DataW.weightsEach Try.prog (fs.toList.map (·.type)) (xs.map (·.1)) := by simp [DataW.weights, ht]
  rw [show ((DataW.agg (xs.map (·.1)) : DataW H), xs.flatMap (·.2)).1 = DataW.agg (xs.map (·.1)) from rfl, e]
  refine DataW.weights_mem_each (j := i) (t := f.type) (d := (xs[i]'(by omega)).1) ?_ ?_ z hz
  · simp [hf]
  · simp [show i < xs.length by omega]
theorem wk_all {e : TypeId} : ∀ {el : List (DataW H)} {d : DataW H}, d ∈ el → ∀ x ∈ d.weights Try.prog e, x ∈ DataW.weightsAll Try.prog e el
  | d0 :: r, d, hd, x, hx => by
    rw [DataW.weightsAll]
    rcases List.mem_cons.1 hd with rfl | h
    · exact List.mem_append.2 (.inl hx)
    · exact List.mem_append.2 (.inr (wk_all h x hx))
theorem wk_elem {t e : TypeId} {el sp : List (DataW H)} {d : DataW H} (ht : Try.prog.underlying t = some (.slice e)) (hw : Wk t (.slice el sp)) (hd : d ∈ el) : Wk e d := fun x hx => hw x (by
  have := wk_all hd x hx
  simp only [DataW.weights, ht]
  exact List.mem_cons_of_mem _ (List.mem_append.2 (.inl this)))
theorem reach_is : reachBytes = 140737488351232 := by decide
theorem bplain_add (b off j : Nat) : (⟨b, off, none⟩ : Addr).add j = ⟨b, off + j, none⟩ := by
  unfold Addr.add
  split <;> simp_all
theorem bcells3 : Try.prog.cellsOf 3 = 1 := by kernel_rfl
theorem bcells9 : Try.prog.cellsOf 9 = 1 := by kernel_rfl
theorem str_size {s : ByteArray} : s.data.toList.length = s.size := Array.length_toList
theorem open_sub {cs : List Value} (hl : cs.length = 3) {n : Nat} {y : DataW H × List MemPlace} (h : DataW.trod enc Try.prog W base (fun _ => true) held n 34 cs = some y) (hw : Wk 34 y.1) : ∃ s : Sb, cs = [.string s.f, .string s.x, .int .i64 s.q] ∧ s.f.size ≤ 140737488355328 ∧ s.x.size ≤ 140737488355328 := by
  match cs, hl with
  | [c0, c1, c2], _ =>
    obtain ⟨n0, y0, t0, k0⟩ := wtrod_field Try.underlying34 h hw 0 9 0 _ ⟨_, rfl, rfl, rfl⟩ bcells9
    obtain ⟨n1, y1, t1, k1⟩ := wtrod_field Try.underlying34 h hw 1 9 1 _ ⟨_, rfl, rfl, rfl⟩ bcells9
    obtain ⟨n2, y2, t2, k2⟩ := wtrod_field Try.underlying34 h hw 2 3 2 _ ⟨_, rfl, rfl, rfl⟩ bcells3
    obtain ⟨s0, e0, g0, w0⟩ := DataW.trod_string Try.underlying9 (show DataW.trod enc Try.prog W base (fun _ => true) held _ 9 [c0] = _ from t0)
    obtain ⟨s1, e1, g1, w1⟩ := DataW.trod_string Try.underlying9 (show DataW.trod enc Try.prog W base (fun _ => true) held _ 9 [c1] = _ from t1)
    obtain ⟨s2, e2, w2⟩ := DataW.trod_int Try.underlying3 (show DataW.trod enc Try.prog W base (fun _ => true) held _ 3 [c2] = _ from t2)
    simp at e0 e1 e2
    subst e0 e1 e2
    refine ⟨⟨s0, s1, s2⟩, rfl, ?_, ?_⟩
    · rw [g0] at k0
      have := k0 s0.data.toList.length (by simp [DataW.weights])
      rw [reach_is, str_size] at this
      show s0.size ≤ _
      omega
    · rw [g1] at k1
      have := k1 s1.data.toList.length (by simp [DataW.weights])
      rw [reach_is, str_size] at this
      show s1.size ≤ _
      omega
theorem open_subs {a : Option Addr} {len cap : Nat} {d : DataW H} {p : List MemPlace} (hp : ∀ ad, a = some ad → ∃ b off, ad = ⟨b, off, none⟩) (h : DataW.Trod enc Try.prog W base (fun _ => true) held 22 (.slice a len cap) d p) (hw : Wk 22 d) : ∃ l : List Sb, SbAt W (.slice a len cap) l ∧ ∀ s ∈ l, s.f.size ≤ 140737488355328 ∧ s.x.size ≤ 140737488355328 := by
  obtain ⟨fuel, hf⟩ := h
  have hf' : DataW.trod enc Try.prog W base (fun _ => true) held fuel 22 [.slice a len cap] = some (d, p) := hf
  rcases Go.Deep.open_slice Try.underlying22 hf' with ⟨hcs, _⟩ | ⟨x, l, c, m, n, D, Q, hcs, _, hl, hm, hmm, hx0, hx⟩
  · simp only [List.cons.injEq, Value.slice.injEq, and_true] at hcs
    obtain ⟨rfl, rfl, rfl⟩ := hcs
    exact ⟨[], ⟨⟨_, _, _, rfl, rfl, Nat.le_refl _, fun c => (c rfl).elim⟩⟩, fun s hs => by cases hs⟩
  · simp only [List.cons.injEq, Value.slice.injEq, and_true] at hcs
    obtain ⟨rfl, rfl, rfl⟩ := hcs
    simp at hmm
    obtain ⟨b, off, rfl⟩ := hp x rfl
    have hd : d = .slice ((List.range len).map D) ((List.range (m - len)).map fun j => D (len + j)) := congrArg Prod.fst hx0
    rw [hd] at hw
    have each : ∀ i, i < len → ∃ s : Sb, (W.cell? ⟨b, off + i * 3, none⟩ = some (.string s.f) ∧ W.cell? ⟨b, off + i * 3 + 1, none⟩ = some (.string s.x) ∧ W.cell? ⟨b, off + i * 3 + 2, none⟩ = some (.int .i64 s.q)) ∧ s.f.size ≤ 140737488355328 ∧ s.x.size ≤ 140737488355328 := fun i hi => by
      obtain ⟨cs', h1, h2⟩ := hx i (by omega)
      rw [show Try.prog.cellsOf 34 = 3 by kernel_rfl, bplain_add] at h1
      obtain ⟨_, hlen, hcell⟩ := World.cells?_some h1
      obtain ⟨s, e, r⟩ := open_sub hlen h2 (wk_elem Try.underlying22 hw (List.mem_map.2 ⟨i, List.mem_range.2 hi, rfl⟩))
      have h0 := hcell 0 (by omega)
      have h1 := hcell 1 (by omega)
      have h2 := hcell 2 (by omega)
      rw [bplain_add, e] at h0 h1 h2
      exact ⟨s, ⟨h0, h1, h2⟩, r⟩
    haveI : Inhabited Sb := ⟨⟨⟨#[]⟩, ⟨#[]⟩, 0⟩⟩
    obtain ⟨z, hz⟩ := Go.Deep.choose_lt each
    refine ⟨(List.range len).map z, ⟨⟨_, _, _, rfl, by simp, hl, fun hne => ⟨b, off, rfl, ?_, fun i s hs => ?_⟩⟩⟩, fun s hs => ?_⟩
    · have h0 : 0 < len := by
        rcases Nat.eq_zero_or_pos len with e | e
        · rw [e] at hne; exact (hne rfl).elim
        · exact e
      exact World.block_lt_of_cell? _ _ (hz 0 h0).1.1
    · have hi : i < len := by have := (List.getElem?_eq_some_iff.1 hs).1; simpa using this
      rw [List.getElem?_map, List.getElem?_range hi] at hs
      simp at hs
      subst hs
      exact (hz i hi).1
    · obtain ⟨i, hi, rfl⟩ := List.mem_map.1 hs
      exact (hz i (List.mem_range.1 hi)).2
end
end Go.Proofs.Ytepjcfhbbcaldaa.Li
namespace Go.Proofs.Ytepjcfhbbcaldaa.Li
open Go Go.RowKit
set_option linter.unusedSimpArgs false
set_option linter.unusedVariables false
/-! ### two tries that stand alike -/
structure Twin (T U : List Fn) : Prop where
  nd : ∀ f ∈ T, ∃ g ∈ U, f.s.A = g.s.A
  nd' : ∀ g ∈ U, ∃ f ∈ T, f.s.A = g.s.A
  m : ∀ f ∈ T, ∀ g ∈ U, f.s.A = g.s.A → f.s.m = g.s.m
  en : ∀ f ∈ T, ∀ g ∈ U, f.s.A = g.s.A → f.en = g.en
  inv : Inv (U.map Fn.s)
  sameT : ∀ a ∈ T, ∀ b ∈ T, a.s.A = b.s.A → a = b
  sameU : ∀ a ∈ U, ∀ b ∈ U, a.s.A = b.s.A → a = b
theorem ks_uniq {L L' : List ByteArray} (h : L.Pairwise fun a b => unB a < unB b) (h' : L'.Pairwise fun a b => unB a < unB b) (e : ∀ x, x ∈ L ↔ x ∈ L') : L = L' := by
  induction L generalizing L' with
  | nil =>
    cases L' with
    | nil => rfl
    | cons a l => have := (e a).2 List.mem_cons_self; cases this
  | cons a l ih =>
    cases L' with
    | nil => have := (e a).1 List.mem_cons_self; cases this
    | cons b l' =>
      obtain ⟨h1, h2⟩ := List.pairwise_cons.1 h
      obtain ⟨h3, h4⟩ := List.pairwise_cons.1 h'
      have ab : a = b := by
        rcases List.mem_cons.1 ((e a).1 List.mem_cons_self) with q | q
        · exact q
        · rcases List.mem_cons.1 ((e b).2 List.mem_cons_self) with q' | q'
          · exact q'.symm
          · exact absurd (h3 a q) (List.lt_asymm (h1 b q'))
      subst ab
      congr 1
      refine ih h2 h4 (fun x => ⟨fun hx => ?_, fun hx => ?_⟩)
      · rcases List.mem_cons.1 ((e x).1 (List.mem_cons_of_mem _ hx)) with q | q
        · subst q; exact absurd (h1 x hx) (List.lt_irrefl _)
        · exact q
      · rcases List.mem_cons.1 ((e x).2 (List.mem_cons_of_mem _ hx)) with q | q
        · subst q; exact absurd (h3 x hx) (List.lt_irrefl _)
        · exact q
theorem Twin.kid {T U : List Fn} (tw : Twin T U) {f g q q' : Fn} (hf : f ∈ T) (hg : g ∈ U) (e : f.s.A = g.s.A) (hq : q ∈ T) (hq' : q' ∈ U) (e' : q.s.A = q'.s.A) : Kid f.s q.s ↔ Kid g.s q'.s := by
  have m := tw.m q hq q' hq' e'
  have t : q.s.top = q'.s.top := by unfold Nd.top; rw [e', m]
  unfold Kid
  rw [m, t, e, e']
theorem kids_mem {T : List Fn} {f : Fn} {L : List ByteArray} {K : List Fn} (ks : KidsOf T f L K) (x : ByteArray) : x ∈ L ↔ ∃ q ∈ T, Kid f.s q.s ∧ q.s.A[q.s.top]? = some x := by
  constructor
  · intro h
    obtain ⟨i, hi⟩ := List.getElem?_of_mem h
    obtain ⟨q, _, hq, ak⟩ := ks.at_ i x hi
    exact ⟨q, hq, ak.2.1, ak.2.2⟩
  · rintro ⟨q, hq, kq, hx⟩
    obtain ⟨i, x', h1, _, h3⟩ := ks.all q hq kq
    rw [hx] at h3
    cases h3
    exact List.mem_of_getElem? h1
theorem Twin.kids {T U : List Fn} (tw : Twin T U) {f g : Fn} (hf : f ∈ T) (hg : g ∈ U) (e : f.s.A = g.s.A) {L L' : List ByteArray} {K K' : List Fn} (ks : KidsOf T f L K) (ks' : KidsOf U g L' K') :
    L' = L ∧ ∀ (i : Nat) (q q' : Fn), K[i]? = some q → K'[i]? = some q' → q ∈ T ∧ q' ∈ U ∧ q.s.A = q'.s.A := by
  have LL : L' = L := ks_uniq ks'.ord ks.ord (fun x => by
    rw [kids_mem ks', kids_mem ks]
    constructor
    · rintro ⟨q', hq', kq, hx⟩
      obtain ⟨q, hq, e'⟩ := tw.nd' q' hq'
      have t : q.s.top = q'.s.top := by unfold Nd.top; rw [e', tw.m q hq q' hq' e']
      exact ⟨q, hq, (tw.kid hf hg e hq hq' e').2 kq, by rw [e', t]; exact hx⟩
    · rintro ⟨q, hq, kq, hx⟩
      obtain ⟨q', hq', e'⟩ := tw.nd q hq
      have t : q.s.top = q'.s.top := by unfold Nd.top; rw [e', tw.m q hq q' hq' e']
      exact ⟨q', hq', (tw.kid hf hg e hq hq' e').1 kq, by rw [← e', ← t]; exact hx⟩)
  refine ⟨LL, fun i q q' hq hq' => ?_⟩
  subst LL
  have hi : i < L'.length := by rw [← ks.len]; exact (List.getElem?_eq_some_iff.1 hq).1
  obtain ⟨x, hx⟩ : ∃ x, L'[i]? = some x := ⟨_, List.getElem?_eq_getElem hi⟩
  obtain ⟨r, r1, r2, r3⟩ := ks.at_ i x hx
  obtain ⟨r', r1', r2', r3'⟩ := ks'.at_ i x hx
  rw [hq] at r1; cases r1
  rw [hq'] at r1'; cases r1'
  obtain ⟨q2, hq2, e2⟩ := tw.nd q r2
  have t : q.s.top = q2.s.top := by unfold Nd.top; rw [e2, tw.m q r2 q2 hq2 e2]
  have ak : AtK (U.map Fn.s) g.s x q2.s := ⟨List.mem_map_of_mem hq2, (tw.kid hf hg e r2 hq2 e2).1 r3.2.1, by rw [← e2, ← t]; exact r3.2.2⟩
  have := tw.inv.atk ak r3'
  exact ⟨r2, r2', by rw [e2, this]⟩
set_option maxRecDepth 100000 in
set_option maxHeartbeats 2000000 in
theorem sameT_big {w : World} {ga gb ca cb n : Nat} {xs : List ByteArray} (hn : n = xs.length) (hm : n ≤ 900000) (ha : ∀ i (x : ByteArray), xs[i]? = some x → w.cell? ⟨ga, i, none⟩ = some (.string x)) (hb : ∀ i (x : ByteArray), xs[i]? = some x → w.cell? ⟨gb, i, none⟩ = some (.string x)) :
    Calls Try.prog 39 #[.slice (some ⟨ga, 0, none⟩) n ca, .slice (some ⟨gb, 0, none⟩) n cb] w fun e w' => e = .returned (.bool true) ∧ Below w.heap.size w w' := by
  have HA := hidi (And.intro ha (And.intro hb (And.intro hn hm)))
  clear ha hb hn hm
  go_enter Try.func39, Try.ntmps39
  go_wp2_with fail
  go_loopg [5] n (fun gk s5 wx => ∃ i : Nat, i + gk = n ∧ s5 = .int .i64 i ∧ Hid (Below w.heap.size w wx))
  case atStart => exact ⟨0, by omega, rfl, Below.refl _ _⟩
  case round =>
    obtain ⟨i, hi, rfl, HI⟩ := hrel
    by_cases hin : i < n
    · have hlt : (i : Int) < (n : Int) := by omega
      have hge : (0 : Int) ≤ (i : Int) := by omega
      obtain ⟨ha, hb, hn, hm⟩ := HA.out
      have hw1 : IntKind.i64.wrap ((i : Int) + 1) = (i : Int) + 1 := by rw [IntKind.wrap_i64]; omega
      obtain ⟨x, hx⟩ : ∃ x, xs[i]? = some x := ⟨_, List.getElem?_eq_getElem (by omega)⟩
      have t0 := ha i x hx
      have u0 := hb i x hx
      have d0 := (HI.out.cell (p := ⟨ga, i, none⟩) (World.block_lt_of_cell? _ _ t0)).trans t0
      have d2 := (HI.out.cell (p := ⟨gb, i, none⟩) (World.block_lt_of_cell? _ _ u0)).trans u0
      clear hx ha hb hn hm t0 u0
      have hxx : (x.toList == x.toList) = true := by simp
      go_wp2_with fail
      go_quiet (fail)
      have HB1 := hidi (below_drewN HI.out (m := nq))
      go_wp2_with fail
      go_roundg (n - (i + 1))
      case measure => omega
      case rel => exact ⟨i + 1, by omega, by first | rfl | simp, HB1.out⟩
    · have hlt : ¬ (i : Int) < (n : Int) := by omega
      go_wp2_with fail
      go_ret
      exact ⟨rfl, HI.out⟩
set_option maxRecDepth 100000 in
theorem sameT_none {w : World} {a b : Option Addr} {ca cb : Nat} : Calls Try.prog 39 #[.slice a 0 ca, .slice b 0 cb] w fun e w' => e = .returned (.bool true) ∧ Below w.heap.size w w' := by
  go_enter Try.func39, Try.ntmps39
  go_wp2_with fail
  go_loopg [5] 0 (fun gk s5 wx => s5 = .int .i64 0 ∧ wx = w)
  case atStart => exact ⟨rfl, rfl⟩
  case round =>
    obtain ⟨rfl, rfl⟩ := hrel
    go_wp2_with fail
    go_ret
    exact ⟨rfl, Below.refl _ _⟩
theorem tcell {w : World} {B n : Nat} {v : Value} {L : List ByteArray} (h : w.ownsRow B 9 1 v n (L.map Value.string)) (h0 : 0 < n) : ∃ g c, v = .slice (some ⟨g, 0, none⟩) n c ∧ ∀ i (x : ByteArray), L[i]? = some x → w.cell? ⟨g, i, none⟩ = some (.string x) := by
  have hl : L.length = n := by simpa using h.1
  rcases h.2 with ⟨_, e⟩ | ⟨g, cap, cur, rfl, _⟩
  · omega
  · refine ⟨g, cap, rfl, fun i x hx => ?_⟩
    have hi := (List.getElem?_eq_some_iff.1 hx).1
    rw [h.cellAt i (by omega), List.getElem?_map, hx]
    rfl
theorem sameT_any {w : World} {B B' n : Nat} {v v' : Value} {L : List ByteArray} (h : w.ownsRow B 9 1 v n (L.map Value.string)) (h' : w.ownsRow B' 9 1 v' n (L.map Value.string)) (hl : n ≤ 900000) :
    Calls Try.prog 39 #[v, v'] w fun e w' => e = .returned (.bool true) ∧ Below w.heap.size w w' := by
  by_cases h0 : n = 0
  · obtain ⟨a, c, rfl⟩ := own_sl h
    obtain ⟨a', c', rfl⟩ := own_sl h'
    rw [h0]
    exact sameT_none
  · obtain ⟨g, c, rfl, hc⟩ := tcell h (by omega)
    obtain ⟨g', c', rfl, hc'⟩ := tcell h' (by omega)
    exact sameT_big (by have := h.1; simp at this; exact this.symm) hl hc hc'
end Go.Proofs.Ytepjcfhbbcaldaa.Li
namespace Go.Proofs.Ytepjcfhbbcaldaa.Li
open Go Go.RowKit
set_option linter.unusedSimpArgs false
set_option linter.unusedVariables false
def agg3 (u : V3) : Value := .agg #[u.1, .bool false, u.2.1, u.2.2]
theorem shc_get : ∀ (l : List V3) (i : Nat) (u : V3), l[i]? = some u → (shc l)[i * 4]? = some u.1 ∧ (shc l)[i * 4 + 1]? = some (.bool false) ∧ (shc l)[i * 4 + 2]? = some u.2.1 ∧ (shc l)[i * 4 + 3]? = some u.2.2
  | [], i, u, h => by simp at h
  | a :: l, 0, u, h => by
    simp at h
    subst h
    exact ⟨rfl, rfl, rfl, rfl⟩
  | a :: l, i + 1, u, h => by
    have := shc_get l i u (by simpa using h)
    have e : shc (a :: l) = [a.1, .bool false, a.2.1, a.2.2] ++ shc l := rfl
    rw [e]
    have q : ∀ j, ([a.1, .bool false, a.2.1, a.2.2] ++ shc l)[(i + 1) * 4 + j]? = (shc l)[i * 4 + j]? := fun j => by
      rw [List.getElem?_append_right (by simp; omega)]
      congr 1
      simp
      omega
    exact ⟨(q 0).trans this.1, (q 1).trans this.2.1, (q 2).trans this.2.2.1, (q 3).trans this.2.2.2⟩
theorem kcell {w : World} {B n : Nat} {v : Value} {l : List V3} (h : w.ownsRow B 49 4 v n (shc l)) (hn : n = l.length) (h0 : 0 < n) : ∃ g c, v = .slice (some ⟨g, 0, none⟩) n c ∧ ∀ (i : Nat) (u : V3), l[i]? = some u → w.cell? ⟨g, i * 4, none⟩ = some u.1 ∧ w.cell? ⟨g, i * 4 + 1, none⟩ = some (.bool false) ∧ w.cell? ⟨g, i * 4 + 2, none⟩ = some u.2.1 ∧ w.cell? ⟨g, i * 4 + 3, none⟩ = some u.2.2 := by
  rcases h.2 with ⟨_, e⟩ | ⟨g, cap, cur, rfl, _⟩
  · omega
  · refine ⟨g, cap, rfl, fun i u hu => ?_⟩
    have hi := (List.getElem?_eq_some_iff.1 hu).1
    obtain ⟨a, b, c, d⟩ := shc_get l i u hu
    rw [h.cellAt (i * 4) (by omega), h.cellAt (i * 4 + 1) (by omega), h.cellAt (i * 4 + 2) (by omega), h.cellAt (i * 4 + 3) (by omega)]
    exact ⟨a, b, c, d⟩
set_option maxRecDepth 100000 in
set_option maxHeartbeats 8000000 in
/-- SAMESHAPE walked, what its calls tell given. -/
theorem sameShape_walk {w2 : World} {l1 l2 e1 e2 : Value} {k1 k2 : Option Addr} {n c1 c2 : Nat} {vs us : List V3} (la : ∃ a m c, l1 = .slice a m c) (lb : ∃ a m c, l2 = .slice a m c) (ea : ∃ a m c, e1 = .slice a m c) (eb : ∃ a m c, e2 = .slice a m c)
    (hT : ∀ w', Below w2.heap.size w2 w' → Calls Try.prog 39 #[l1, l2] w' fun e w'' => e = .returned (.bool true) ∧ Below w'.heap.size w' w'') (hE : ∀ w', Below w2.heap.size w2 w' → Calls Try.prog 14 #[e1, e2] w' fun e w'' => e = .returned (.bool true) ∧ Below w'.heap.size w' w'')
    (h1 : w2.ownsRow 0 49 4 (.slice k1 n c1) n (shc vs)) (h2 : w2.ownsRow 0 49 4 (.slice k2 n c2) n (shc us)) (n1 : n = vs.length) (n2 : n = us.length) (hn : n ≤ 9223372036854775807)
    (hR : ∀ (i : Nat) (v u : V3), vs[i]? = some v → us[i]? = some u → ∀ w', Below w2.heap.size w2 w' → Calls Try.prog 23 #[agg3 v, agg3 u] w' fun e w'' => e = .returned (.bool true) ∧ Below w'.heap.size w' w'') :
    Calls Try.prog 23 #[.agg #[l1, .bool false, e1, .slice k1 n c1], .agg #[l2, .bool false, e2, .slice k2 n c2]] w2 fun e w' => e = .returned (.bool true) ∧ Below w2.heap.size w2 w' := by
  obtain ⟨la1, la2, la3, rfl⟩ := la
  obtain ⟨lb1, lb2, lb3, rfl⟩ := lb
  obtain ⟨ea1, ea2, ea3, rfl⟩ := ea
  obtain ⟨eb1, eb2, eb3, rfl⟩ := eb
  have HT := hidi hT
  have HE := hidi hE
  have HR := hidi hR
  have HH := hidi (And.intro h1 (And.intro h2 (And.intro n1 (And.intro n2 hn))))
  obtain ⟨w3, hw3⟩ : ∃ w3, w3 = (w2.alloc (.cells #[.slice la1 la2 la3, .bool false, .slice ea1 ea2 ea3, .slice k1 n c1] 49)).alloc (.cells #[.slice lb1 lb2 lb3, .bool false, .slice eb1 eb2 eb3, .slice k2 n c2] 49) := ⟨_, rfl⟩
  have b3 : Below w2.heap.size w2 w3 := by rw [hw3]; exact ((Below.refl _ _).alloc (Nat.le_refl _) _).alloc (by simp) _
  have q1 : w3.heap[w2.heap.size]? = some (.cells #[.slice la1 la2 la3, .bool false, .slice ea1 ea2 ea3, .slice k1 n c1] 49 (0, 0)) := by
    rw [hw3, (World.grownBy_alloc _ _ none).block _ (by simp) (by simp)]
    exact heap_alloc_new _ _
  have q2 : w3.heap[w2.heap.size + 1]? = some (.cells #[.slice lb1 lb2 lb3, .bool false, .slice eb1 eb2 eb3, .slice k2 n c2] 49 (0, 0)) := by
    have := heap_alloc_new (w2.alloc (.cells #[.slice la1 la2 la3, .bool false, .slice ea1 ea2 ea3, .slice k1 n c1] 49)) (.cells #[.slice lb1 lb2 lb3, .bool false, .slice eb1 eb2 eb3, .slice k2 n c2] 49)
    rw [hw3]
    simpa using this
  obtain ⟨b2, hb2⟩ : ∃ b2, b2 = w2.heap.size + 1 := ⟨_, rfl⟩
  rw [← hb2] at q2
  have CB := hidi (fun (wx : World) (hb : Below w3.heap.size w3 wx) => (show (wx.cell? ⟨w2.heap.size, 0, none⟩ = some (.slice la1 la2 la3) ∧ wx.cell? ⟨w2.heap.size, 1, none⟩ = some (.bool false) ∧ wx.cell? ⟨w2.heap.size, 2, none⟩ = some (.slice ea1 ea2 ea3) ∧ wx.cell? ⟨w2.heap.size, 3, none⟩ = some (.slice k1 n c1)) ∧ wx.cell? ⟨b2, 0, none⟩ = some (.slice lb1 lb2 lb3) ∧ wx.cell? ⟨b2, 1, none⟩ = some (.bool false) ∧ wx.cell? ⟨b2, 2, none⟩ = some (.slice eb1 eb2 eb3) ∧ wx.cell? ⟨b2, 3, none⟩ = some (.slice k2 n c2) from by
    have r1 := later_at q1 hb
    have r2 := later_at q2 hb
    exact ⟨⟨box_cells r1 0 _ rfl, box_cells r1 1 _ rfl, box_cells r1 2 _ rfl, box_cells r1 3 _ rfl⟩, box_cells r2 0 _ rfl, box_cells r2 1 _ rfl, box_cells r2 2 _ rfl, box_cells r2 3 _ rfl⟩))
  have B3 := hidi b3
  clear h1 h2 n1 n2 hT hE hR b3 q1 q2
  go_enter Try.func23, Try.ntmps23
  go_upto_region 1 with fail
  rw [← hw3, ← hb2]
  obtain ⟨⟨x0, x1, x2, x3⟩, y0, y1, y2, y3⟩ := CB.out w3 (Below.refl _ _)
  have T3 := hidi (HT.out w3 B3.out)
  clear hw3 hb2 HT
  obtain ⟨b1, hb1⟩ : ∃ b1, b1 = w2.heap.size := ⟨_, rfl⟩
  rw [← hb1] at x0 x1 x2 x3 CB ⊢
  clear hb1
  go_wp2_with (first
    | (go_at_call 39; refine T3.out.mono ?_; rintro e w4 ⟨rfl, hb⟩; clear x0 x1 x2 x3 y0 y1 y2 y3; obtain ⟨⟨x0, x1, x2, x3⟩, y0, y1, y2, y3⟩ := CB.out w4 hb; have E4 := hidi (HE.out w4 (B3.out.trans (hb.mono B3.out.size))); have B4 := hidi hb; clear hb T3 HE)
    | (go_at_call 14; refine E4.out.mono ?_; rintro e w5 ⟨rfl, hb⟩; have B5 := hidi (B4.out.trans (hb.mono B4.out.size)); clear x0 x1 x2 x3 y0 y1 y2 y3; obtain ⟨⟨x0, x1, x2, x3⟩, y0, y1, y2, y3⟩ := CB.out w5 B5.out; clear hb E4))
  clear x0 x1 x2 x3 y0 y1 y2 y3
  go_loopg [5] n (fun gg s5 wx => ∃ i : Nat, i + gg = n ∧ s5 = .int .i64 i ∧ Hid (Below w3.heap.size w3 wx))
  case atStart => exact ⟨0, by omega, rfl, B5.out⟩
  case round =>
    obtain ⟨i, hi, rfl, Z⟩ := hrel
    obtain ⟨⟨x0, x1, x2, x3⟩, y0, y1, y2, y3⟩ := CB.out wr Z.out
    by_cases lt : i < n
    · have lt' : (i : Int) < n := by omega
      have ge' : ¬ (i : Int) < 0 := by omega
      have ge2 : (0 : Int) ≤ (i : Int) := by omega
      have hw : IntKind.i64.wrap ((i : Int) + 1) = (i : Int) + 1 := by rw [IntKind.wrap_i64]; omega
      obtain ⟨h1, h2, n1, n2, hn⟩ := HH.out
      obtain ⟨ga, ca, hv1, hc1⟩ := kcell h1 n1 (by omega)
      obtain ⟨gb, cb, hv2, hc2⟩ := kcell h2 n2 (by omega)
      simp only [Value.slice.injEq, true_and] at hv1 hv2
      obtain ⟨rfl, rfl⟩ := hv1
      obtain ⟨rfl, rfl⟩ := hv2
      obtain ⟨⟨v1, v2, v3⟩, hv⟩ : ∃ v, vs[i]? = some v := ⟨_, List.getElem?_eq_getElem (by omega)⟩
      obtain ⟨⟨u1, u2, u3⟩, hu⟩ : ∃ u, us[i]? = some u := ⟨_, List.getElem?_eq_getElem (by omega)⟩
      obtain ⟨p0, p1, p2, p3⟩ := hc1 i _ hv
      obtain ⟨r0, r1, r2, r3⟩ := hc2 i _ hu
      have B0 := hidi ((Below.refl wr.heap.size wr).drew)
      have bz := B3.out.trans (Z.out.mono B3.out.size)
      have kp : ∀ {a : Addr} {v : Value}, w2.cell? a = some v → wr.drew.cell? a = some v := fun {a v} h => ((bz.trans (B0.out.mono bz.size)).cell (World.block_lt_of_cell? _ _ h)).trans h
      have hS0 : wr.drew.cell? ⟨b1, 3, none⟩ = some (.slice (some ⟨ga, 0, none⟩) n c1) ∧ wr.drew.cell? ⟨b2, 3, none⟩ = some (.slice (some ⟨gb, 0, none⟩) n c2) ∧ wr.drew.cell? ⟨ga, i * 4, none⟩ = some v1 ∧ wr.drew.cell? ⟨ga, i * 4 + 1, none⟩ = some (.bool false) ∧ wr.drew.cell? ⟨ga, i * 4 + 2, none⟩ = some v2 ∧ wr.drew.cell? ⟨ga, i * 4 + 3, none⟩ = some v3 ∧ wr.drew.cell? ⟨gb, i * 4, none⟩ = some u1 ∧ wr.drew.cell? ⟨gb, i * 4 + 1, none⟩ = some (.bool false) ∧ wr.drew.cell? ⟨gb, i * 4 + 2, none⟩ = some u2 ∧ wr.drew.cell? ⟨gb, i * 4 + 3, none⟩ = some u3 := ⟨x3, y3, kp p0, kp p1, kp p2, kp p3, kp r0, kp r1, kp r2, kp r3⟩
      have RC := hidi (fun (wq : World) (hb : Below wr.heap.size wr wq) => HR.out i _ _ hv hu wq (bz.trans (hb.mono bz.size)))
      have HSK := hidi (fun (wq : World) (hb : Below wr.drew.heap.size wr.drew wq) => (show wq.cell? ⟨b1, 3, none⟩ = some (.slice (some ⟨ga, 0, none⟩) n c1) ∧ wq.cell? ⟨b2, 3, none⟩ = some (.slice (some ⟨gb, 0, none⟩) n c2) ∧ wq.cell? ⟨ga, i * 4, none⟩ = some v1 ∧ wq.cell? ⟨ga, i * 4 + 1, none⟩ = some (.bool false) ∧ wq.cell? ⟨ga, i * 4 + 2, none⟩ = some v2 ∧ wq.cell? ⟨ga, i * 4 + 3, none⟩ = some v3 ∧ wq.cell? ⟨gb, i * 4, none⟩ = some u1 ∧ wq.cell? ⟨gb, i * 4 + 1, none⟩ = some (.bool false) ∧ wq.cell? ⟨gb, i * 4 + 2, none⟩ = some u2 ∧ wq.cell? ⟨gb, i * 4 + 3, none⟩ = some u3 from by
        have kq : ∀ {a : Addr} {v : Value}, wr.drew.cell? a = some v → wq.cell? a = some v := fun {a v} h => (hb.cell (World.block_lt_of_cell? _ _ h)).trans h
        obtain ⟨s0, s1, s2, s3, s4, s5, s6, s7, s8, s9⟩ := hS0
        exact ⟨kq s0, kq s1, kq s2, kq s3, kq s4, kq s5, kq s6, kq s7, kq s8, kq s9⟩))
      unfold agg3 at RC
      clear x0 x1 x2 y0 y1 y2 hc1 hc2 hv hu p0 p1 p2 p3 r0 r1 r2 r3 bz kp h1 h2 n1 n2 hn
      go_wp2_with fail
      refine wp_region_held_drew (S := fun w' => w'.cell? ⟨b1, 3, none⟩ = some (.slice (some ⟨ga, 0, none⟩) n c1) ∧ w'.cell? ⟨b2, 3, none⟩ = some (.slice (some ⟨gb, 0, none⟩) n c2) ∧ w'.cell? ⟨ga, i * 4, none⟩ = some v1 ∧ w'.cell? ⟨ga, i * 4 + 1, none⟩ = some (.bool false) ∧ w'.cell? ⟨ga, i * 4 + 2, none⟩ = some v2 ∧ w'.cell? ⟨ga, i * 4 + 3, none⟩ = some v3 ∧ w'.cell? ⟨gb, i * 4, none⟩ = some u1 ∧ w'.cell? ⟨gb, i * 4 + 1, none⟩ = some (.bool false) ∧ w'.cell? ⟨gb, i * 4 + 2, none⟩ = some u2 ∧ w'.cell? ⟨gb, i * 4 + 3, none⟩ = some u3) (by kernel_rfl) hS0 (fun hHeld => ?_)
      change wpAnyH _ _ _ _ _ 12 #[false, false, false, false, false, false, false, false, false, false, false, false] _ (World.drew _)
      refine wpAnyH_take (i := 0) (oi := { dst := some 43, op := Go.Op.fieldAddr 49 (Go.Operand.tmp 2) 3, type := 0, pos := "exact.go:76", after := #[], guard := none }) (v := .pointer (some ⟨b1, 3, none⟩)) rfl (by kernel_rfl) (by kernel_rfl) (by kernel_rfl) (fun _ _ _ h => h) (Or.inl ⟨by kernel_rfl, by intro wq hSw; (try dsimp only at hSw); go_simp⟩) hHeld ?_
      (try simp only [Act.put, List.setIfInBounds_toArray, List.set_cons_zero, List.set_cons_succ])
      refine wpAnyH_take (i := 1) (oi := { dst := some 44, op := Go.Op.load 47 (Go.Operand.tmp 43), type := 47, pos := "exact.go:76", after := #[{ on := 0, ground := Go.Ground.data }], guard := none }) (v := .slice (some ⟨ga, 0, none⟩) n c1) rfl (by kernel_rfl) (by kernel_rfl) (by kernel_rfl) (fun _ _ _ h => h) (Or.inl ⟨by kernel_rfl, by intro wq hSw; (try dsimp only at hSw); go_simp⟩) hHeld ?_
      (try simp only [Act.put, List.setIfInBounds_toArray, List.set_cons_zero, List.set_cons_succ])
      refine wpAnyH_take (i := 2) (oi := { dst := some 45, op := Go.Op.move (Go.Operand.tmp 5), type := 3, pos := "exact.go:76", after := #[], guard := none }) (v := .int .i64 (i : Int)) rfl (by kernel_rfl) (by kernel_rfl) (by kernel_rfl) (fun _ _ _ h => h) (Or.inl ⟨by kernel_rfl, by intro wq hSw; (try dsimp only at hSw); go_simp⟩) hHeld ?_
      (try simp only [Act.put, List.setIfInBounds_toArray, List.set_cons_zero, List.set_cons_succ])
      refine wpAnyH_take (i := 3) (oi := { dst := some 46, op := Go.Op.indexAddr 47 (Go.Operand.tmp 44) (Go.Operand.tmp 45), type := 0, pos := "exact.go:76", after := #[{ on := 1, ground := Go.Ground.data }, { on := 2, ground := Go.Ground.data }], guard := none }) (v := .pointer (some ⟨ga, i * 4, none⟩)) rfl (by kernel_rfl) (by kernel_rfl) (by kernel_rfl) (fun _ _ _ h => h) (Or.inl ⟨by kernel_rfl, by intro wq hSw; (try dsimp only at hSw); go_simp⟩) hHeld ?_
      (try simp only [Act.put, List.setIfInBounds_toArray, List.set_cons_zero, List.set_cons_succ])
      refine wpAnyH_take (i := 4) (oi := { dst := some 47, op := Go.Op.load 49 (Go.Operand.tmp 46), type := 49, pos := "exact.go:76", after := #[{ on := 3, ground := Go.Ground.data }], guard := none }) (v := .agg #[v1, .bool false, v2, v3]) rfl (by kernel_rfl) (by kernel_rfl) (by kernel_rfl) (fun _ _ _ h => h) (Or.inl ⟨by kernel_rfl, by intro wq hSw; (try dsimp only at hSw); go_simp⟩) hHeld ?_
      (try simp only [Act.put, List.setIfInBounds_toArray, List.set_cons_zero, List.set_cons_succ])
      refine wpAnyH_take (i := 5) (oi := { dst := some 48, op := Go.Op.fieldAddr 49 (Go.Operand.tmp 3) 3, type := 0, pos := "exact.go:76", after := #[], guard := none }) (v := .pointer (some ⟨b2, 3, none⟩)) rfl (by kernel_rfl) (by kernel_rfl) (by kernel_rfl) (fun _ _ _ h => h) (Or.inl ⟨by kernel_rfl, by intro wq hSw; (try dsimp only at hSw); go_simp⟩) hHeld ?_
      (try simp only [Act.put, List.setIfInBounds_toArray, List.set_cons_zero, List.set_cons_succ])
      refine wpAnyH_take (i := 6) (oi := { dst := some 49, op := Go.Op.load 47 (Go.Operand.tmp 48), type := 47, pos := "exact.go:76", after := #[{ on := 5, ground := Go.Ground.data }], guard := none }) (v := .slice (some ⟨gb, 0, none⟩) n c2) rfl (by kernel_rfl) (by kernel_rfl) (by kernel_rfl) (fun _ _ _ h => h) (Or.inl ⟨by kernel_rfl, by intro wq hSw; (try dsimp only at hSw); go_simp⟩) hHeld ?_
      (try simp only [Act.put, List.setIfInBounds_toArray, List.set_cons_zero, List.set_cons_succ])
      refine wpAnyH_take (i := 7) (oi := { dst := some 50, op := Go.Op.move (Go.Operand.tmp 5), type := 3, pos := "exact.go:76", after := #[], guard := none }) (v := .int .i64 (i : Int)) rfl (by kernel_rfl) (by kernel_rfl) (by kernel_rfl) (fun _ _ _ h => h) (Or.inl ⟨by kernel_rfl, by intro wq hSw; (try dsimp only at hSw); go_simp⟩) hHeld ?_
      (try simp only [Act.put, List.setIfInBounds_toArray, List.set_cons_zero, List.set_cons_succ])
      refine wpAnyH_take (i := 8) (oi := { dst := some 51, op := Go.Op.indexAddr 47 (Go.Operand.tmp 49) (Go.Operand.tmp 50), type := 0, pos := "exact.go:76", after := #[{ on := 6, ground := Go.Ground.data }, { on := 7, ground := Go.Ground.data }], guard := none }) (v := .pointer (some ⟨gb, i * 4, none⟩)) rfl (by kernel_rfl) (by kernel_rfl) (by kernel_rfl) (fun _ _ _ h => h) (Or.inl ⟨by kernel_rfl, by intro wq hSw; (try dsimp only at hSw); go_simp⟩) hHeld ?_
      (try simp only [Act.put, List.setIfInBounds_toArray, List.set_cons_zero, List.set_cons_succ])
      refine wpAnyH_take (i := 9) (oi := { dst := some 52, op := Go.Op.load 49 (Go.Operand.tmp 51), type := 49, pos := "exact.go:76", after := #[{ on := 8, ground := Go.Ground.data }], guard := none }) (v := .agg #[u1, .bool false, u2, u3]) rfl (by kernel_rfl) (by kernel_rfl) (by kernel_rfl) (fun _ _ _ h => h) (Or.inl ⟨by kernel_rfl, by intro wq hSw; (try dsimp only at hSw); go_simp⟩) hHeld ?_
      (try simp only [Act.put, List.setIfInBounds_toArray, List.set_cons_zero, List.set_cons_succ])
      refine wpAnyH_ready (rs := [10]) (by kernel_rfl) (by simp) ?_
      refine AllReadyH.cons (o := { dst := some 53, op := Go.Op.call { callee := Go.Callee.value (Go.Operand.func 23), args := #[Go.Operand.tmp 47, Go.Operand.tmp 52], argTypes := #[49, 49] }, type := 4, pos := "exact.go:76", after := #[{ on := 4, ground := Go.Ground.data }, { on := 9, ground := Go.Ground.data }], guard := none }) (by rfl) (fun K hK => ?_) AllReadyH.nil
      go_simp
      go_wp2_with (go_at_call 23; refine (RC.out _ B0.out).mono ?_; rintro e wq ⟨rfl, hb⟩; have BQ := hidi (Z.out.trans ((B0.out.trans (hb.mono B0.out.size)).mono Z.out.size)); have HQ := hidi (HSK.out _ hb); clear hb)
      refine hK.out _ _ HQ.out (fun hHeld => ?_)
      clear hK K
      (try simp only [Act.put, List.setIfInBounds_toArray, List.set_cons_zero, List.set_cons_succ])
      refine wpAnyH_take (i := 11) (oi := { dst := some 54, op := Go.Op.unOp Go.UnOp.not 4 (Go.Operand.tmp 53), type := 4, pos := "exact.go:76", after := #[{ on := 10, ground := Go.Ground.data }], guard := none }) (v := .bool false) rfl (by kernel_rfl) (by kernel_rfl) (by kernel_rfl) (fun _ _ _ h => h) (Or.inl ⟨by kernel_rfl, by intro wq hSw; (try dsimp only at hSw); go_simp⟩) hHeld ?_
      (try simp only [Act.put, List.setIfInBounds_toArray, List.set_cons_zero, List.set_cons_succ])
      refine wpAnyH_done (by kernel_rfl) ?_ _
      go_wp2_with fail
      go_roundg (n - (i + 1))
      case measure => omega
      case rel => exact ⟨i + 1, by omega, by simp, BQ.out⟩
    · have lt' : ¬ (i : Int) < n := by omega
      have FIN := hidi (B3.out.trans (Z.out.mono B3.out.size))
      go_wp2_with fail
      go_ret
      exact ⟨rfl, FIN.out⟩
end Go.Proofs.Ytepjcfhbbcaldaa.Li
