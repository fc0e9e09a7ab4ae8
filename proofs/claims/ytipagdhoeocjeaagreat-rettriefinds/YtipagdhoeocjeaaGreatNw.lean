import Derived.Test.YtipagdhoeocjeaaGreatNu
import Derived.SizedLaws
import Derived.Deep.Slices
import Derived.Deep.Strs
import Derived.Deep.SlicePairs
import Derived.ChangeSlices
import Derived.ChangeArms
import Derived.ProofKit
import Derived.OpenShut
import Derived.ShutString
import Derived.ChangeOld
import Derived.Below
import Derived.Test.YtipagdhoeocjeaaGreatCg
import Derived.Test.YtipagdhoeocjeaaGreatCc
namespace Go.Proofs.YtipagdhoeocjeaaGreat.Li
open Go Go.RowKit Go.ChangeShapes Go.WideShapes
set_option linter.unusedSimpArgs false
set_option linter.unusedVariables false
set_option maxRecDepth 100000
section
variable {H : Type} {enc : TypeId × Value → H} {W : World} {base : Nat} {held : Bool}
/-- All that a datum holds is within the reach. -/
def Wk (t : TypeId) (d : DataW H) : Prop := ∀ x ∈ d.weights Tryz.prog t, x ≤ reachBytes
theorem wtrod_field {t : TypeId} {fs : Array Field} {fuel : Nat} {cs : List Value} {x : DataW H × List MemPlace} (ht : Tryz.prog.underlying t = some (.struct fs)) (h : DataW.trod enc Tryz.prog W base (fun _ => true) held fuel t cs = some x) (hw : Wk t x.1)
    (i ty off size : Nat) (hf : ∃ f, fs[i]? = some f ∧ f.type = ty ∧ f.offset = off) (hs : Tryz.prog.cellsOf ty = size) : ∃ n y, DataW.trod enc Tryz.prog W base (fun _ => true) held n ty ((cs.drop off).take size) = some y ∧ Wk ty y.1 := by
  obtain ⟨xs, n, _, hx0, _, hl, hx⟩ := DataW.trod_struct ht h
  obtain ⟨f, hf, rfl, rfl⟩ := hf
  subst hs
  have hi : i < fs.size := (Array.getElem?_eq_some_iff.1 hf).1
  refine ⟨n, xs[i]'(by omega), by rw [hx i f hf, List.getElem?_eq_getElem], fun z hz => hw z ?_⟩
  rw [hx0]
  have e : (DataW.agg (xs.map (·.1)) : DataW H).weights Tryz.prog t = DataW.weightsEach Tryz.prog (fs.toList.map (·.type)) (xs.map (·.1)) := by simp [DataW.weights, ht]
  rw [show ((DataW.agg (xs.map (·.1)) : DataW H), xs.flatMap (·.2)).1 = DataW.agg (xs.map (·.1)) from rfl, e]
  refine DataW.weights_mem_each (j := i) (t := f.type) (d := (xs[i]'(by omega)).1) ?_ ?_ z hz
  · simp [hf]
  · simp [show i < xs.length by omega]
theorem wk_all {e : TypeId} : ∀ {el : List (DataW H)} {d : DataW H}, d ∈ el → ∀ x ∈ d.weights Tryz.prog e, x ∈ DataW.weightsAll Tryz.prog e el
  | d0 :: r, d, hd, x, hx => by
    rw [DataW.weightsAll]
    rcases List.mem_cons.1 hd with rfl | h
    · exact List.mem_append.2 (.inl hx)
    · exact List.mem_append.2 (.inr (wk_all h x hx))
theorem wk_elem {t e : TypeId} {el sp : List (DataW H)} {d : DataW H} (ht : Tryz.prog.underlying t = some (.slice e)) (hw : Wk t (.slice el sp)) (hd : d ∈ el) : Wk e d := fun x hx => hw x (by
  have := wk_all hd x hx
  simp only [DataW.weights, ht]
  exact List.mem_cons_of_mem _ (List.mem_append.2 (.inl this)))
theorem wk_len {t e : TypeId} {el sp : List (DataW H)} (ht : Tryz.prog.underlying t = some (.slice e)) (hw : Wk t (.slice el sp)) : (el.length + sp.length) * Tryz.prog.bytesOf e ≤ reachBytes := hw _ (by
  simp only [DataW.weights, ht]
  exact List.mem_cons_self)
theorem reach_is : reachBytes = 140737488351232 := by decide
theorem bplain_add (b off j : Nat) : (⟨b, off, none⟩ : Addr).add j = ⟨b, off + j, none⟩ := by
  unfold Addr.add
  split <;> simp_all
theorem bcells3 : Tryz.prog.cellsOf 3 = 1 := by kernel_rfl
theorem bcells4 : Tryz.prog.cellsOf 4 = 1 := by kernel_rfl
theorem bcells9 : Tryz.prog.cellsOf 9 = 1 := by kernel_rfl
theorem bcells28 : Tryz.prog.cellsOf 28 = 1 := by kernel_rfl
theorem str_size {s : ByteArray} : s.data.toList.length = s.size := Array.length_toList
theorem mspr {v : Value} {n : Nat} {y : DataW H × List MemPlace} (h : DataW.trod enc Tryz.prog W base (fun _ => true) held n 28 [v] = some y) (hw : Wk 28 y.1) : ∃ xs, PR W v xs ∧ xs.length ≤ 140737488355328 := by
  rcases open_ints Tryz.underlying28 Tryz.underlying5 (by kernel_rfl) h with ⟨hcs, _⟩ | ⟨x, l, c, zs, hcs, _, hl, hm, hz, hy, hcell, hwz⟩
  · simp only [List.cons.injEq, and_true] at hcs
    exact ⟨[], .inl ⟨hcs, rfl⟩, Nat.zero_le _⟩
  · simp only [List.cons.injEq, and_true] at hcs
    simp at hz
    rw [hy] at hw
    have hk := wk_len Tryz.underlying28 hw
    rw [show Tryz.prog.bytesOf 5 = 1 by kernel_rfl, reach_is] at hk
    simp [lits] at hk
    refine ⟨(List.range l).map (fun i => zs.getD i 0), .inr ⟨x, l, c, hcs, by simp, Nat.le_trans hl hm, fun i hi => ?_⟩, ?_⟩
    · rw [hcell i (by omega)]
      simp [List.getD_eq_getElem?_getD, List.getElem?_map, List.getElem?_range hi]
    · simp
      omega
theorem open_msg {cs : List Value} (hl : cs.length = 4) {n : Nat} {y : DataW H × List MemPlace} (h : DataW.trod enc Tryz.prog W base (fun _ => true) held n 30 cs = some y) (hw : Wk 30 y.1) : ∃ s : Ml, cs = [.string s.1.t, s.2, .int .i64 s.1.q, .bool s.1.r] ∧ PR W s.2 s.1.xs ∧ s.1.t.size ≤ 140737488355328 ∧ s.1.xs.length ≤ 140737488355328 := by
  match cs, hl with
  | [c0, c1, c2, c3], _ =>
    obtain ⟨n0, y0, t0, k0⟩ := wtrod_field Tryz.underlying30 h hw 0 9 0 _ ⟨_, rfl, rfl, rfl⟩ bcells9
    obtain ⟨n1, y1, t1, k1⟩ := wtrod_field Tryz.underlying30 h hw 1 28 1 _ ⟨_, rfl, rfl, rfl⟩ bcells28
    obtain ⟨n2, y2, t2, k2⟩ := wtrod_field Tryz.underlying30 h hw 2 3 2 _ ⟨_, rfl, rfl, rfl⟩ bcells3
    obtain ⟨n3, y3, t3, k3⟩ := wtrod_field Tryz.underlying30 h hw 3 4 3 _ ⟨_, rfl, rfl, rfl⟩ bcells4
    obtain ⟨s0, e0, g0, w0⟩ := DataW.trod_string Tryz.underlying9 (show DataW.trod enc Tryz.prog W base (fun _ => true) held _ 9 [c0] = _ from t0)
    obtain ⟨xs, hp, hxs⟩ := mspr (show DataW.trod enc Tryz.prog W base (fun _ => true) held _ 28 [c1] = _ from t1) k1
    obtain ⟨s2, e2, w2⟩ := DataW.trod_int Tryz.underlying3 (show DataW.trod enc Tryz.prog W base (fun _ => true) held _ 3 [c2] = _ from t2)
    obtain ⟨s3, e3, w3⟩ := DataW.trod_bool Tryz.underlying4 (show DataW.trod enc Tryz.prog W base (fun _ => true) held _ 4 [c3] = _ from t3)
    simp at e0 e2 e3
    subst e0 e2 e3
    refine ⟨(⟨s0, xs, s2, s3⟩, c1), rfl, hp, ?_, hxs⟩
    rw [g0] at k0
    have := k0 s0.data.toList.length (by simp [DataW.weights])
    rw [reach_is, str_size] at this
    show s0.size ≤ _
    omega
theorem open_msgs {a : Option Addr} {len cap : Nat} {d : DataW H} {p : List MemPlace} (hp : ∀ ad, a = some ad → ∃ b off, ad = ⟨b, off, none⟩) (h : DataW.Trod enc Tryz.prog W base (fun _ => true) held 22 (.slice a len cap) d p) (hw : Wk 22 d) : ∃ l : List Ml, MsIn W (.slice a len cap) l ∧ (∀ s ∈ l, s.1.t.size ≤ 140737488355328 ∧ s.1.xs.length ≤ 140737488355328) ∧ l.length ≤ 140737488355328 := by
  obtain ⟨fuel, hf⟩ := h
  have hf' : DataW.trod enc Tryz.prog W base (fun _ => true) held fuel 22 [.slice a len cap] = some (d, p) := hf
  rcases Go.Deep.open_slice Tryz.underlying22 hf' with ⟨hcs, _⟩ | ⟨x, l, c, m, n, D, Q, hcs, _, hl, hm, hmm, hx0, hx⟩
  · simp only [List.cons.injEq, Value.slice.injEq, and_true] at hcs
    obtain ⟨rfl, rfl, rfl⟩ := hcs
    exact ⟨[], ⟨⟨_, _, _, rfl, rfl, Nat.le_refl _, fun c => (c rfl).elim⟩, fun s hs => by cases hs⟩, fun s hs => (by cases hs), Nat.zero_le _⟩
  · simp only [List.cons.injEq, Value.slice.injEq, and_true] at hcs
    obtain ⟨rfl, rfl, rfl⟩ := hcs
    simp at hmm
    obtain ⟨b, off, rfl⟩ := hp x rfl
    have hd : d = .slice ((List.range len).map D) ((List.range (m - len)).map fun j => D (len + j)) := congrArg Prod.fst hx0
    rw [hd] at hw
    have hk := wk_len Tryz.underlying22 hw
    rw [show Tryz.prog.bytesOf 30 = 56 by kernel_rfl, reach_is] at hk
    simp at hk
    have each : ∀ i, i < len → ∃ s : Ml, (W.cell? ⟨b, off + i * 4, none⟩ = some (.string s.1.t) ∧ W.cell? ⟨b, off + i * 4 + 1, none⟩ = some s.2 ∧ W.cell? ⟨b, off + i * 4 + 2, none⟩ = some (.int .i64 s.1.q) ∧ W.cell? ⟨b, off + i * 4 + 3, none⟩ = some (.bool s.1.r)) ∧ PR W s.2 s.1.xs ∧ s.1.t.size ≤ 140737488355328 ∧ s.1.xs.length ≤ 140737488355328 := fun i hi => by
      obtain ⟨cs', h1, h2⟩ := hx i (by omega)
      rw [show Tryz.prog.cellsOf 30 = 4 by kernel_rfl, bplain_add] at h1
      obtain ⟨_, hlen, hcell⟩ := World.cells?_some h1
      obtain ⟨s, e, r⟩ := open_msg hlen h2 (wk_elem Tryz.underlying22 hw (List.mem_map.2 ⟨i, List.mem_range.2 hi, rfl⟩))
      have h0 := hcell 0 (by omega)
      have h1 := hcell 1 (by omega)
      have h2 := hcell 2 (by omega)
      have h3 := hcell 3 (by omega)
      rw [bplain_add, e] at h0 h1 h2 h3
      exact ⟨s, ⟨h0, h1, h2, h3⟩, r⟩
    haveI : Inhabited Ml := ⟨(⟨⟨#[]⟩, [], 0, false⟩, .slice none 0 0)⟩
    obtain ⟨z, hz⟩ := Go.Deep.choose_lt each
    refine ⟨(List.range len).map z, ⟨⟨_, _, _, rfl, by simp, hl, fun hne => ⟨b, off, rfl, ?_, fun i s hs => ?_⟩⟩, fun s hs => ?_⟩, fun s hs => ?_, by simp; omega⟩
    · have h0 : 0 < len := by
        rcases Nat.eq_zero_or_pos len with e | e
        · rw [e] at hne; exact (hne rfl).elim
        · exact e
      exact World.block_lt_of_cell? _ _ (hz 0 h0).1.1
    · have hi : i < len := by have := (List.getElem?_eq_some_iff.1 hs).1; simpa using this
      rw [List.getElem?_map, List.getElem?_range hi] at hs
      simp at hs
      subst hs
      exact (hz i hi).1
    · obtain ⟨i, hi, rfl⟩ := List.mem_map.1 hs
      exact (hz i (List.mem_range.1 hi)).2.1
    · obtain ⟨i, hi, rfl⟩ := List.mem_map.1 hs
      exact (hz i (List.mem_range.1 hi)).2.2
end
end Go.Proofs.YtipagdhoeocjeaaGreat.Li
namespace Go.Proofs.YtipagdhoeocjeaaGreat.Li
open Go Go.RowKit
set_option linter.unusedSimpArgs false
set_option linter.unusedVariables false
/-- How much a list of them comes to. -/
def sumM : List Ml → Nat
  | [] => 0
  | s :: l => 1 + s.1.t.size + s.1.xs.length + sumM l
theorem sumM_app (a b : List Ml) : sumM (a ++ b) = sumM a + sumM b := by
  induction a with
  | nil => simp [sumM]
  | cons s a ih => simp [sumM, ih]; omega
theorem sumM_mem {l : List Ml} {s : Ml} (h : s ∈ l) : s.1.t.size ≤ sumM l ∧ s.1.xs.length ≤ sumM l := by
  induction l with
  | nil => cases h
  | cons a l ih =>
    unfold sumM
    rcases List.mem_cons.1 h with rfl | h
    · omega
    · have := ih h; omega
/-- What small tells. -/
def SmR (l : List Ml) (b : Bool) : Prop := b = true → l.length ≤ 60 ∧ sumM l ≤ 60000
set_option maxRecDepth 100000 in
set_option maxHeartbeats 4000000 in
theorem small_any {w : World} {v : Value} {l : List Ml} (h : MsIn w v l) (hx : ∀ s ∈ l, s.1.t.size ≤ 140737488355328 ∧ s.1.xs.length ≤ 140737488355328) (hbig : l.length ≤ 140737488355328) :
    Calls Tryz.prog 5 #[v] w fun e w' => ∃ b, e = .returned (.bool b) ∧ SmR l b ∧ Below w.heap.size w w' := by
  obtain ⟨a, n, cap, rfl, hn, hc, hrow⟩ := h.ex
  have HN := hidi (show n = l.length ∧ n ≤ cap ∧ n ≤ 140737488355328 from ⟨hn, hc, by omega⟩)
  have HR := hidi hrow
  have HX := hidi hx
  have HP := hidi (fun s (hs : s ∈ l) => h.pr s hs)
  clear h hn hc hrow hx hbig
  go_enter Tryz.func5, Tryz.ntmps5
  go_wp2_with fail
  go_loopg [3, 4] n (fun gg s3 s4 wx => ∃ k : Nat, k ≤ n ∧ k ≤ 61 ∧ gg = n - k ∧ s3 = .int .i64 (sumM (l.take k) : Nat) ∧ s4 = .int .i64 k ∧ Hid (Below w.heap.size w wx ∧ (k = 0 ∨ sumM (l.take (k - 1)) ≤ 60000)))
  case atStart => exact ⟨0, Nat.zero_le _, by omega, rfl, rfl, rfl, Below.refl _ _, .inl rfl⟩
  case round =>
    obtain ⟨k, hk, hk61, rfl, rfl, rfl, Z⟩ := hrel
    obtain ⟨sm, hsm⟩ : ∃ sm, sm = sumM (l.take k) := ⟨_, rfl⟩
    rw [← hsm]
    have HS := hidi hsm
    clear hsm
    have bsm : sm ≤ 60000 + 281474976710657 := by
      rcases Z.out.2 with q | q
      · have := HS.out; rw [q] at this; simp [sumM] at this; omega
      · have h1 := HS.out
        by_cases k0 : k = 0
        · rw [k0] at h1; simp [sumM] at h1; omega
        · obtain ⟨t, ht⟩ : ∃ t, l[k - 1]? = some t := ⟨_, List.getElem?_eq_getElem (by have := HN.out.1; omega)⟩
          have h2 := HX.out t (List.mem_of_getElem? ht)
          rw [show k = (k - 1) + 1 by omega, List.take_add_one, ht, sumM_app] at h1
          simp [sumM] at h1
          omega
    by_cases go : k < n ∧ k ≤ 60 ∧ sm ≤ 60000
    · obtain ⟨lt, l60, le⟩ := go
      have lt' : (k : Int) < n := by omega
      have l60' : (k : Int) ≤ 60 := by omega
      have le' : (sm : Int) ≤ 60000 := by omega
      have d1 : decide ((k : Int) < n) = true := decide_eq_true lt'
      have d2 : decide ((k : Int) ≤ 60) = true := decide_eq_true l60'
      have d3 : decide ((sm : Int) ≤ 60000) = true := decide_eq_true le'
      obtain ⟨t, ht⟩ : ∃ t, l[k]? = some t := ⟨_, List.getElem?_eq_getElem (by have := HN.out.1; omega)⟩
      obtain ⟨g, o, rfl, hg, hcells⟩ := HR.out (fun e => by subst e; simp at ht)
      obtain ⟨x1, x2, x3, x4⟩ := hcells k t ht
      have tx := HX.out t (List.mem_of_getElem? ht)
      obtain ⟨pa, pc, hpv, -⟩ := (HP.out t (List.mem_of_getElem? ht)).sl
      obtain ⟨px, hpx⟩ : ∃ px, px = t.1.xs.length := ⟨_, rfl⟩
      rw [← hpx] at tx hpv
      have y1 : wr.cell? ⟨g, o + k * 4, none⟩ = some (.string t.1.t) := by rw [Z.out.1.cell (by exact hg)]; exact x1
      have y2 : wr.cell? ⟨g, o + k * 4 + 1, none⟩ = some (.slice pa px pc) := by rw [Z.out.1.cell (by exact hg), ← hpv]; exact x2
      have hw1 : IntKind.i64.wrap ((sm : Int) + 1) = (sm : Int) + 1 := by rw [IntKind.wrap_i64]; omega
      have hw2 : IntKind.i64.wrap ((sm : Int) + 1 + (t.1.t.size : Int)) = (sm : Int) + 1 + (t.1.t.size : Int) := by rw [IntKind.wrap_i64]; omega
      have hw3 : IntKind.i64.wrap ((sm : Int) + 1 + (t.1.t.size : Int) + (px : Int)) = (sm : Int) + 1 + (t.1.t.size : Int) + (px : Int) := by rw [IntKind.wrap_i64]; omega
      have hw4 : IntKind.i64.wrap ((k : Int) + 1) = (k : Int) + 1 := by rw [IntKind.wrap_i64]; have := HN.out; omega
      have NX := hidi (show sm + 1 + t.1.t.size + px = sumM (l.take (k + 1)) ∧ sumM (l.take (k + 1 - 1)) ≤ 60000 from ⟨by rw [List.take_add_one, ht, sumM_app, ← HS.out, hpx]; simp [sumM]; omega, by rw [Nat.add_sub_cancel, ← HS.out]; exact le⟩)
      clear ht hcells x1 x2 x3 x4 tx bsm le hg hpv hpx
      go_wp2_with fail
      go_quiet (fail)
      go_wp2_with fail
      go_roundg (n - (k + 1))
      case measure => omega
      case rel => exact ⟨k + 1, by omega, by omega, rfl, by rw [← NX.out.1]; simp, by simp, below_drewN Z.out.1, .inr NX.out.2⟩
    · have FIN := hidi (show (decide ((n : Int) ≤ 60) = true ∧ decide ((sm : Int) ≤ 60000) = true) → l.length ≤ 60 ∧ sumM l ≤ 60000 from fun ⟨c1, c2⟩ => by
        have c1 := of_decide_eq_true c1
        have c2 := of_decide_eq_true c2
        have kn : k = n := by
          refine Classical.byContradiction fun c => go ⟨by omega, by omega, by omega⟩
        have := HS.out
        rw [List.take_of_length_le (by have := HN.out; omega)] at this
        exact ⟨by have := HN.out; omega, by omega⟩)
      by_cases lt : k < n
      · have lt' : (k : Int) < n := by omega
        have d1 : decide ((k : Int) < n) = true := decide_eq_true lt'
        by_cases l60 : k ≤ 60
        · have l60' : (k : Int) ≤ 60 := by omega
          have d2 : decide ((k : Int) ≤ 60) = true := decide_eq_true l60'
          have le' : ¬ (sm : Int) ≤ 60000 := fun c => go ⟨lt, l60, by omega⟩
          have d3 : decide ((sm : Int) ≤ 60000) = false := decide_eq_false le'
          clear go bsm
          by_cases n60 : (n : Int) ≤ 60
          · go_wp2_with fail
            go_ret
            exact .inl ⟨rfl, (fun c => by cases c), Z.out.1⟩
          · go_wp2_with fail
            go_ret
            exact .inl ⟨rfl, (fun c => by cases c), Z.out.1⟩
        · have l60' : ¬ (k : Int) ≤ 60 := by omega
          have d2 : decide ((k : Int) ≤ 60) = false := decide_eq_false l60'
          have n60 : ¬ (n : Int) ≤ 60 := by omega
          have d4 : decide ((n : Int) ≤ 60) = false := decide_eq_false n60
          clear go bsm
          go_wp2_with fail
          go_ret
          exact .inl ⟨rfl, (fun c => by cases c), Z.out.1⟩
      · have lt' : ¬ (k : Int) < n := by omega
        have d1 : decide ((k : Int) < n) = false := decide_eq_false lt'
        clear go bsm
        by_cases n60 : (n : Int) ≤ 60
        · by_cases le' : (sm : Int) ≤ 60000
          · go_wp2_with fail
            go_ret
            exact .inr ⟨rfl, fun _ => FIN.out ⟨decide_eq_true n60, decide_eq_true le'⟩, Z.out.1⟩
          · go_wp2_with fail
            go_ret
            exact .inl ⟨rfl, (fun c => by cases c), Z.out.1⟩
        · go_wp2_with fail
          go_ret
          exact .inl ⟨rfl, (fun c => by cases c), Z.out.1⟩
end Go.Proofs.YtipagdhoeocjeaaGreat.Li
namespace Go.Proofs.YtipagdhoeocjeaaGreat
open Go Go.RowKit
set_option linter.unusedSimpArgs false
set_option linter.unusedVariables false

abbrev MatchesOk (fs ts : List ByteArray) : Prop := ∀ (vf vt : Value) (w : World), Row w vf fs → Row w vt ts → Calls Tryz.prog 41 #[vf, vt] w fun e w' => e = .returned (.bool (mt (fs.map unB) (ts.map unB))) ∧ ∃ k, w' = w.drewN k

theorem matches_nil (ts : List ByteArray) : MatchesOk [] ts := by
  intro vf vt w Rf Rt
  obtain ⟨a, cap, rfl⟩ := Rf.nil
  obtain ⟨a2, n2, cap2, rfl, hn, _, _⟩ := Rt
  have e : mt (([] : List ByteArray).map unB) (ts.map unB) = ((n2 : Int) == 0) := by
    rw [hn]; cases ts with
    | nil => rfl
    | cons a b => simp [mt]; omega
  rw [e]
  clear Rf hn e
  go_enter Tryz.func41, Tryz.ntmps41
  go_wp2_with fail
  go_ret
  exact ⟨rfl, 0, rfl⟩
theorem matches_hash (f : ByteArray) (fs ts : List ByteArray) (hf : unB f = [35]) : MatchesOk (f :: fs) ts := by
  intro vf vt w Rf Rt
  have e : mt ((f :: fs).map unB) (ts.map unB) = true := by simp [mt, hf]
  rw [e]
  obtain ⟨g, o, n1, cap, rfl, hn1, hc1, hg1, c1, hk1⟩ := Rf.cons
  have hN1 : Hid (n1 = fs.length + 1 ∧ n1 ≤ cap) := ⟨hn1, hc1⟩
  have e0 : ((n1 : Int) == 0) = false := by rw [beq_eq_false_iff_ne]; omega
  have p0 : (0 : Int) < (n1 : Int) := by omega
  have p0' : (1 : Int) ≤ (n1 : Int) := by omega
  have q1 : (f.toList == (⟨#[35]⟩ : ByteArray).toList) = true := by rw [eq_one]; exact decide_eq_true hf
  have q1' : (f.toList == [35]) = true := by rw [eq_one']; exact decide_eq_true hf
  clear e hk1 Rf Rt hn1
  go_enter Tryz.func41, Tryz.ntmps41
  go_wp2_with fail
  go_ret
  exact ⟨rfl, 0, rfl⟩
theorem matches_short (f : ByteArray) (fs : List ByteArray) (hf : ¬ unB f = [35]) : MatchesOk (f :: fs) [] := by
  intro vf vt w Rf Rt
  have e : mt ((f :: fs).map unB) (([] : List ByteArray).map unB) = false := by simp [mt, hf]
  rw [e]
  obtain ⟨a2, cap2, rfl⟩ := Rt.nil
  obtain ⟨g, o, n1, cap, rfl, hn1, hc1, hg1, c1, hk1⟩ := Rf.cons
  have hN1 : Hid (n1 = fs.length + 1 ∧ n1 ≤ cap) := ⟨hn1, hc1⟩
  have e0 : ((n1 : Int) == 0) = false := by rw [beq_eq_false_iff_ne]; omega
  have p0 : (0 : Int) < (n1 : Int) := by omega
  have p0' : (1 : Int) ≤ (n1 : Int) := by omega
  have q1 : (f.toList == (⟨#[35]⟩ : ByteArray).toList) = false := by rw [eq_one]; exact decide_eq_false hf
  have q1' : (f.toList == [35]) = false := by rw [eq_one']; exact decide_eq_false hf
  clear e hk1 Rf Rt hn1
  go_enter Tryz.func41, Tryz.ntmps41
  go_wp2_with fail
  go_ret
  exact ⟨rfl, 0, rfl⟩
theorem matches_unlike (f t : ByteArray) (fs ts : List ByteArray) (hf : ¬ unB f = [35]) (h43 : ¬ unB f = [43]) (hne : ¬ unB f = unB t) : MatchesOk (f :: fs) (t :: ts) := by
  intro vf vt w Rf Rt
  have e : mt ((f :: fs).map unB) ((t :: ts).map unB) = false := by simp [mt, hf, h43, hne]
  rw [e]
  obtain ⟨g, o, n1, cap, rfl, hn1, hc1, hg1, c1, hk1⟩ := Rf.cons
  have hN1 : Hid (n1 = fs.length + 1 ∧ n1 ≤ cap) := ⟨hn1, hc1⟩
  have e0 : ((n1 : Int) == 0) = false := by rw [beq_eq_false_iff_ne]; omega
  have p0 : (0 : Int) < (n1 : Int) := by omega
  have p0' : (1 : Int) ≤ (n1 : Int) := by omega
  obtain ⟨g2, o2, n2, cap2, rfl, hn2, hc2, hg2, c2, hk2⟩ := Rt.cons
  have hN2 : Hid (n2 = ts.length + 1 ∧ n2 ≤ cap2) := ⟨hn2, hc2⟩
  have e1 : ((n2 : Int) == 0) = false := by rw [beq_eq_false_iff_ne]; omega
  have p1 : (0 : Int) < (n2 : Int) := by omega
  have p1' : (1 : Int) ≤ (n2 : Int) := by omega
  have q1 : (f.toList == (⟨#[35]⟩ : ByteArray).toList) = false := by rw [eq_one]; exact decide_eq_false hf
  have q1' : (f.toList == [35]) = false := by rw [eq_one']; exact decide_eq_false hf
  have q2 : (f.toList == (⟨#[43]⟩ : ByteArray).toList) = false := by rw [eq_one]; exact decide_eq_false h43
  have q2' : (f.toList == [43]) = false := by rw [eq_one']; exact decide_eq_false h43
  have q3 : (f.toList == t.toList) = false := by rw [eq_two]; exact decide_eq_false hne
  clear e hk1 hk2 Rf Rt hf h43 hne hn1 hn2
  go_enter Tryz.func41, Tryz.ntmps41
  go_wp2_with fail
  go_quiet (fail)
  go_wp2_with fail
  go_ret
  exact ⟨rfl, _, rfl⟩
theorem matches_plus (f t : ByteArray) (fs ts : List ByteArray) (hf : ¬ unB f = [35]) (h43 : unB f = [43]) (ih : MatchesOk fs ts) : MatchesOk (f :: fs) (t :: ts) := by
  intro vf vt w Rf Rt
  have e : mt ((f :: fs).map unB) ((t :: ts).map unB) = mt (fs.map unB) (ts.map unB) := by simp only [List.map_cons, mt, if_neg hf]; rw [if_neg]; exact fun h => h.1 h43
  rw [e]
  obtain ⟨g, o, n1, cap, rfl, hn1, hc1, hg1, c1, hk1⟩ := Rf.cons
  have hN1 : Hid (n1 = fs.length + 1 ∧ n1 ≤ cap) := ⟨hn1, hc1⟩
  have e0 : ((n1 : Int) == 0) = false := by rw [beq_eq_false_iff_ne]; omega
  have p0 : (0 : Int) < (n1 : Int) := by omega
  have p0' : (1 : Int) ≤ (n1 : Int) := by omega
  obtain ⟨g2, o2, n2, cap2, rfl, hn2, hc2, hg2, c2, hk2⟩ := Rt.cons
  have hN2 : Hid (n2 = ts.length + 1 ∧ n2 ≤ cap2) := ⟨hn2, hc2⟩
  have e1 : ((n2 : Int) == 0) = false := by rw [beq_eq_false_iff_ne]; omega
  have p1 : (0 : Int) < (n2 : Int) := by omega
  have p1' : (1 : Int) ≤ (n2 : Int) := by omega
  have q1 : (f.toList == (⟨#[35]⟩ : ByteArray).toList) = false := by rw [eq_one]; exact decide_eq_false hf
  have q1' : (f.toList == [35]) = false := by rw [eq_one']; exact decide_eq_false hf
  have q2 : (f.toList == (⟨#[43]⟩ : ByteArray).toList) = true := by rw [eq_one]; exact decide_eq_true h43
  have q2' : (f.toList == [43]) = true := by rw [eq_one']; exact decide_eq_true h43
  obtain ⟨x, hx⟩ : ∃ x, x = mt (fs.map unB) (ts.map unB) := ⟨_, rfl⟩
  have IH : Hid (∀ (a1 a2 : Option Addr), (fs ≠ [] → a1 = some ⟨g, o + 1, none⟩) → (ts ≠ [] → a2 = some ⟨g2, o2 + 1, none⟩) → ∀ k, Calls Tryz.prog 41 #[.slice a1 (n1 - 1) (cap - 1), .slice a2 (n2 - 1) (cap2 - 1)] (w.drewN k) fun e w' => e = .returned (.bool x) ∧ ∃ m, w' = (w.drewN k).drewN m) := fun a1 a2 h1 h2 k => by
    rw [hx]
    exact ih _ _ _ (Row.drew (Row.tail hn1 hc1 hg1 hk1 a1 h1) k) (Row.drew (Row.tail hn2 hc2 hg2 hk2 a2 h2) k)
  have H1 : Hid (n1 = fs.length + 1 ∧ n2 = ts.length + 1 ∧ n1 ≤ cap ∧ n2 ≤ cap2) := ⟨hn1, hn2, hc1, hc2⟩
  rw [← hx]
  clear e hk1 hk2 Rf Rt hf h43 hx ih hn1 hn2
  go_enter Tryz.func41, Tryz.ntmps41
  go_wp2_with fail
  go_quiet (fail)
  have IH2 : Hid (∀ k, Calls Tryz.prog 41 #[.slice (if cap = 1 then some ⟨g, o, none⟩ else some ⟨g, o + 1, none⟩) (n1 - 1) (cap - 1), .slice (if cap2 = 1 then some ⟨g2, o2, none⟩ else some ⟨g2, o2 + 1, none⟩) (n2 - 1) (cap2 - 1)] ((w.drewN nq).drewN k) fun e w' => e = .returned (.bool x) ∧ ∃ m, w' = ((w.drewN nq).drewN k).drewN m) := fun k => by
    rw [World.drewN_drewN]; exact IH.out _ _ (fun hne => by
      have h1 := H1.out; have h2 := List.length_pos_iff.2 hne
      rw [if_neg (by omega)]) (fun hne => by
      have h1 := H1.out; have h2 := List.length_pos_iff.2 hne
      rw [if_neg (by omega)]) (nq + k)
  obtain ⟨w1, hw1⟩ : ∃ w1, w1 = w.drewN nq := ⟨_, rfl⟩
  rw [← hw1] at IH2 ⊢
  obtain ⟨m1, HW1⟩ : ∃ m1, Hid (w1 = w.drewN m1) := ⟨nq, hw1⟩
  clear hw1 IH
  go_wp2_with fail
  go_quiet ((go_at_call 41; exact Calls.quiet_of (IH2.out _)))
  go_wp2_with fail
  all_goals go_ret
  all_goals exact ⟨rfl, m1 + nq, by rw [HW1.out, World.drewN_drewN]⟩
theorem matches_same (f t : ByteArray) (fs ts : List ByteArray) (hf : ¬ unB f = [35]) (h43 : ¬ unB f = [43]) (hne : unB f = unB t) (ih : MatchesOk fs ts) : MatchesOk (f :: fs) (t :: ts) := by
  intro vf vt w Rf Rt
  have e : mt ((f :: fs).map unB) ((t :: ts).map unB) = mt (fs.map unB) (ts.map unB) := by simp only [List.map_cons, mt, if_neg hf]; rw [if_neg]; exact fun h => h.2 hne
  rw [e]
  obtain ⟨g, o, n1, cap, rfl, hn1, hc1, hg1, c1, hk1⟩ := Rf.cons
  have hN1 : Hid (n1 = fs.length + 1 ∧ n1 ≤ cap) := ⟨hn1, hc1⟩
  have e0 : ((n1 : Int) == 0) = false := by rw [beq_eq_false_iff_ne]; omega
  have p0 : (0 : Int) < (n1 : Int) := by omega
  have p0' : (1 : Int) ≤ (n1 : Int) := by omega
  obtain ⟨g2, o2, n2, cap2, rfl, hn2, hc2, hg2, c2, hk2⟩ := Rt.cons
  have hN2 : Hid (n2 = ts.length + 1 ∧ n2 ≤ cap2) := ⟨hn2, hc2⟩
  have e1 : ((n2 : Int) == 0) = false := by rw [beq_eq_false_iff_ne]; omega
  have p1 : (0 : Int) < (n2 : Int) := by omega
  have p1' : (1 : Int) ≤ (n2 : Int) := by omega
  have q1 : (f.toList == (⟨#[35]⟩ : ByteArray).toList) = false := by rw [eq_one]; exact decide_eq_false hf
  have q1' : (f.toList == [35]) = false := by rw [eq_one']; exact decide_eq_false hf
  have q2 : (f.toList == (⟨#[43]⟩ : ByteArray).toList) = false := by rw [eq_one]; exact decide_eq_false h43
  have q2' : (f.toList == [43]) = false := by rw [eq_one']; exact decide_eq_false h43
  have q3 : (f.toList == t.toList) = true := by rw [eq_two]; exact decide_eq_true hne
  clear hne
  obtain ⟨x, hx⟩ : ∃ x, x = mt (fs.map unB) (ts.map unB) := ⟨_, rfl⟩
  have IH : Hid (∀ (a1 a2 : Option Addr), (fs ≠ [] → a1 = some ⟨g, o + 1, none⟩) → (ts ≠ [] → a2 = some ⟨g2, o2 + 1, none⟩) → ∀ k, Calls Tryz.prog 41 #[.slice a1 (n1 - 1) (cap - 1), .slice a2 (n2 - 1) (cap2 - 1)] (w.drewN k) fun e w' => e = .returned (.bool x) ∧ ∃ m, w' = (w.drewN k).drewN m) := fun a1 a2 h1 h2 k => by
    rw [hx]
    exact ih _ _ _ (Row.drew (Row.tail hn1 hc1 hg1 hk1 a1 h1) k) (Row.drew (Row.tail hn2 hc2 hg2 hk2 a2 h2) k)
  have H1 : Hid (n1 = fs.length + 1 ∧ n2 = ts.length + 1 ∧ n1 ≤ cap ∧ n2 ≤ cap2) := ⟨hn1, hn2, hc1, hc2⟩
  rw [← hx]
  clear e hk1 hk2 Rf Rt hf h43 hx ih hn1 hn2
  go_enter Tryz.func41, Tryz.ntmps41
  go_wp2_with fail
  go_quiet (fail)
  have IH2 : Hid (∀ k, Calls Tryz.prog 41 #[.slice (if cap = 1 then some ⟨g, o, none⟩ else some ⟨g, o + 1, none⟩) (n1 - 1) (cap - 1), .slice (if cap2 = 1 then some ⟨g2, o2, none⟩ else some ⟨g2, o2 + 1, none⟩) (n2 - 1) (cap2 - 1)] ((w.drewN nq).drewN k) fun e w' => e = .returned (.bool x) ∧ ∃ m, w' = ((w.drewN nq).drewN k).drewN m) := fun k => by
    rw [World.drewN_drewN]; exact IH.out _ _ (fun hne => by
      have h1 := H1.out; have h2 := List.length_pos_iff.2 hne
      rw [if_neg (by omega)]) (fun hne => by
      have h1 := H1.out; have h2 := List.length_pos_iff.2 hne
      rw [if_neg (by omega)]) (nq + k)
  obtain ⟨w1, hw1⟩ : ∃ w1, w1 = w.drewN nq := ⟨_, rfl⟩
  rw [← hw1] at IH2 ⊢
  obtain ⟨m1, HW1⟩ : ∃ m1, Hid (w1 = w.drewN m1) := ⟨nq, hw1⟩
  clear hw1 IH
  go_wp2_with fail
  go_quiet ((go_at_call 41; exact Calls.quiet_of (IH2.out _)))
  go_wp2_with fail
  all_goals go_ret
  all_goals exact ⟨rfl, m1 + nq, by rw [HW1.out, World.drewN_drewN]⟩

theorem matches_any : ∀ (fs ts : List ByteArray), MatchesOk fs ts
  | [], ts => matches_nil ts
  | f :: fs, ts => by
    by_cases hf : unB f = [35]
    · exact matches_hash f fs ts hf
    · cases ts with
      | nil => exact matches_short f fs hf
      | cons t ts =>
        by_cases h43 : unB f = [43]
        · exact matches_plus f t fs ts hf h43 (matches_any fs ts)
        · by_cases hne : unB f = unB t
          · exact matches_same f t fs ts hf h43 hne (matches_any fs ts)
          · exact matches_unlike f t fs ts hf h43 hne
set_option maxRecDepth 100000 in
set_option maxHeartbeats 1000000 in
theorem tmatch_no (f t : ByteArray) (h : ¬ rfc f = 0 ∨ ¬ tcode t = 0) (w : World) : Calls Tryz.prog 21 #[.string f, .string t] w fun e w' => e = .returned (.bool false) ∧ Below w.heap.size w w' := by
  by_cases h1 : rfc f = 0
  · have h2 : (tcode t != 0) = true := by
      rcases h with h | h
      · exact absurd h1 h
      · simpa using h
    clear h
    go_enter Tryz.func21, Tryz.ntmps21
    go_wp2_with (first | (go_at_call 40; refine (fcheck_any f _).mono ?_; rintro e w1 ⟨rfl, hb⟩; have B1 : Hid (Below w.heap.size w w1) := hb; clear hb; rw [h1]) | (go_at_call 20; refine (tcheck_any t _).mono ?_; rintro e w2 ⟨rfl, hb⟩; have B2 : Hid (Below w.heap.size w w2) := B1.out.trans (hb.mono B1.out.size); clear hb))
    go_ret
    exact ⟨rfl, B2.out⟩
  · have h2 : (rfc f != 0) = true := by simpa using h1
    clear h h1
    go_enter Tryz.func21, Tryz.ntmps21
    go_wp2_with (first | (go_at_call 40; refine (fcheck_any f _).mono ?_; rintro e w1 ⟨rfl, hb⟩; have B1 : Hid (Below w.heap.size w w1) := hb; clear hb) | fail)
    go_ret
    exact ⟨rfl, B1.out⟩

set_option maxRecDepth 100000 in
set_option maxHeartbeats 1000000 in
theorem tmatch_plus (f t : ByteArray) (h1 : rfc f = 0) (h2 : tcode t = 0) (g : ByteArray) (r : List ByteArray) (hl : levels f = g :: r) (h36 : atB t 0 = 36) (h43 : unB g = [43]) (w : World) : Calls Tryz.prog 21 #[.string f, .string t] w fun e w' => e = .returned (.bool (false)) ∧ Below w.heap.size w w' := by
  have hf := rfc_zero h1
  have ht := tcode_zero h2
  have HS : Hid (f.size ≤ 1000000 ∧ t.size ≤ 1000000) := ⟨by omega, by omega⟩
  have p0 : (0 : Int) < t.size := by omega
  have p0' : 0 < t.size := ht.2
  have HL : Hid (levels f = g :: r) := hl
  have hat : atB t 0 = (t[0]'p0').toNat := atB_in t 0 p0'
  have q0 : (((t[0]'p0').toNat : Int) == 36) = true := by rw [← hat, h36]; rfl
  have q1 : (g.toList == (⟨#[43]⟩ : ByteArray).toList) = true := by rw [eq_one]; exact decide_eq_true h43
  have q1' : (g.toList == [43]) = true := by rw [eq_one']; exact decide_eq_true h43
  clear hf ht hl hat
  go_enter Tryz.func21, Tryz.ntmps21
  go_wp2_with (first | (go_at_call 40; refine (fcheck_any f _).mono ?_; rintro e w1 ⟨rfl, hb⟩; have B1 : Hid (Below w.heap.size w w1) := hb; clear hb; rw [h1]) | (go_at_call 20; refine (tcheck_any t _).mono ?_; rintro e w2 ⟨rfl, hb⟩; have B2 : Hid (Below w.heap.size w w2) := B1.out.trans (hb.mono B1.out.size); clear hb; rw [h2]))
  go_must (go_at_call 28)
  refine (tlevels_row f HS.out.1 _).mono ?_
  rintro e w3 ⟨v, rfl, hr, hb⟩
  rw [HL.out] at hr
  have R3 : Hid (Row w3 v (g :: r)) := hr
  have B3 : Hid (Below w.heap.size w w3) := B2.out.trans (hb.mono B2.out.size)
  obtain ⟨gb, o, n, cap, rfl, hn, hc, hg, c1, hk⟩ := hr.cons
  have hp : (0 : Int) < (n : Int) := by omega
  have HN : Hid (n = r.length + 1) := hn
  clear hb hr hn hk hg
  go_wp2_with fail
  go_ret
  exact ⟨rfl, B3.out⟩

set_option maxRecDepth 100000 in
set_option maxHeartbeats 1000000 in
theorem tmatch_hash (f t : ByteArray) (h1 : rfc f = 0) (h2 : tcode t = 0) (g : ByteArray) (r : List ByteArray) (hl : levels f = g :: r) (h36 : atB t 0 = 36) (h43 : ¬ unB g = [43]) (h35 : unB g = [35]) (w : World) : Calls Tryz.prog 21 #[.string f, .string t] w fun e w' => e = .returned (.bool (false)) ∧ Below w.heap.size w w' := by
  have hf := rfc_zero h1
  have ht := tcode_zero h2
  have HS : Hid (f.size ≤ 1000000 ∧ t.size ≤ 1000000) := ⟨by omega, by omega⟩
  have p0 : (0 : Int) < t.size := by omega
  have p0' : 0 < t.size := ht.2
  have HL : Hid (levels f = g :: r) := hl
  have hat : atB t 0 = (t[0]'p0').toNat := atB_in t 0 p0'
  have q0 : (((t[0]'p0').toNat : Int) == 36) = true := by rw [← hat, h36]; rfl
  have q1 : (g.toList == (⟨#[43]⟩ : ByteArray).toList) = false := by rw [eq_one]; exact decide_eq_false h43
  have q1' : (g.toList == [43]) = false := by rw [eq_one']; exact decide_eq_false h43
  have q2 : (g.toList == (⟨#[35]⟩ : ByteArray).toList) = true := by rw [eq_one]; exact decide_eq_true h35
  have q2' : (g.toList == [35]) = true := by rw [eq_one']; exact decide_eq_true h35
  clear hf ht hl hat
  go_enter Tryz.func21, Tryz.ntmps21
  go_wp2_with (first | (go_at_call 40; refine (fcheck_any f _).mono ?_; rintro e w1 ⟨rfl, hb⟩; have B1 : Hid (Below w.heap.size w w1) := hb; clear hb; rw [h1]) | (go_at_call 20; refine (tcheck_any t _).mono ?_; rintro e w2 ⟨rfl, hb⟩; have B2 : Hid (Below w.heap.size w w2) := B1.out.trans (hb.mono B1.out.size); clear hb; rw [h2]))
  go_must (go_at_call 28)
  refine (tlevels_row f HS.out.1 _).mono ?_
  rintro e w3 ⟨v, rfl, hr, hb⟩
  rw [HL.out] at hr
  have R3 : Hid (Row w3 v (g :: r)) := hr
  have B3 : Hid (Below w.heap.size w w3) := B2.out.trans (hb.mono B2.out.size)
  obtain ⟨gb, o, n, cap, rfl, hn, hc, hg, c1, hk⟩ := hr.cons
  have hp : (0 : Int) < (n : Int) := by omega
  have HN : Hid (n = r.length + 1) := hn
  clear hb hr hn hk hg
  go_wp2_with fail
  go_ret
  exact ⟨rfl, B3.out⟩

set_option maxRecDepth 100000 in
set_option maxHeartbeats 1000000 in
theorem tmatch_word (f t : ByteArray) (h1 : rfc f = 0) (h2 : tcode t = 0) (g : ByteArray) (r : List ByteArray) (hl : levels f = g :: r) (h36 : atB t 0 = 36) (h43 : ¬ unB g = [43]) (h35 : ¬ unB g = [35]) (w : World) : Calls Tryz.prog 21 #[.string f, .string t] w fun e w' => e = .returned (.bool (mt ((g :: r).map unB) ((levels t).map unB))) ∧ Below w.heap.size w w' := by
  have hf := rfc_zero h1
  have ht := tcode_zero h2
  have HS : Hid (f.size ≤ 1000000 ∧ t.size ≤ 1000000) := ⟨by omega, by omega⟩
  have p0 : (0 : Int) < t.size := by omega
  have p0' : 0 < t.size := ht.2
  have HL : Hid (levels f = g :: r) := hl
  have hat : atB t 0 = (t[0]'p0').toNat := atB_in t 0 p0'
  have q0 : (((t[0]'p0').toNat : Int) == 36) = true := by rw [← hat, h36]; rfl
  have q1 : (g.toList == (⟨#[43]⟩ : ByteArray).toList) = false := by rw [eq_one]; exact decide_eq_false h43
  have q1' : (g.toList == [43]) = false := by rw [eq_one']; exact decide_eq_false h43
  have q2 : (g.toList == (⟨#[35]⟩ : ByteArray).toList) = false := by rw [eq_one]; exact decide_eq_false h35
  have q2' : (g.toList == [35]) = false := by rw [eq_one']; exact decide_eq_false h35
  clear hf ht hl hat
  go_enter Tryz.func21, Tryz.ntmps21
  go_wp2_with (first | (go_at_call 40; refine (fcheck_any f _).mono ?_; rintro e w1 ⟨rfl, hb⟩; have B1 : Hid (Below w.heap.size w w1) := hb; clear hb; rw [h1]) | (go_at_call 20; refine (tcheck_any t _).mono ?_; rintro e w2 ⟨rfl, hb⟩; have B2 : Hid (Below w.heap.size w w2) := B1.out.trans (hb.mono B1.out.size); clear hb; rw [h2]))
  go_must (go_at_call 28)
  refine (tlevels_row f HS.out.1 _).mono ?_
  rintro e w3 ⟨v, rfl, hr, hb⟩
  rw [HL.out] at hr
  have R3 : Hid (Row w3 v (g :: r)) := hr
  have B3 : Hid (Below w.heap.size w w3) := B2.out.trans (hb.mono B2.out.size)
  obtain ⟨gb, o, n, cap, rfl, hn, hc, hg, c1, hk⟩ := hr.cons
  have hp : (0 : Int) < (n : Int) := by omega
  have HN : Hid (n = r.length + 1) := hn
  clear hb hr hn hk hg
  go_wp2_with fail
  go_must (go_at_call 28)
  refine (tlevels_row t HS.out.2 _).mono ?_
  rintro e w4 ⟨v4, rfl, hr, hb⟩
  have R4 : Hid (Row w4 v4 (levels t)) := hr
  have R5 : Hid (Row w4 (.slice (some ⟨gb, o, none⟩) n cap) (g :: r)) := R3.out.later hb
  have B4 : Hid (Below w.heap.size w w4) := B3.out.trans (hb.mono B3.out.size)
  clear hb hr
  go_wp2_with fail
  go_must (go_at_call 41)
  refine (matches_any _ _ _ _ _ R5.out R4.out).mono ?_
  rintro e w5 ⟨rfl, k5, hw5⟩
  have B5 : Hid (Below w.heap.size w w5) := by show Below _ _ _; rw [hw5]; exact below_drewN B4.out _
  clear hw5
  go_wp2_with fail
  go_ret
  exact ⟨rfl, B5.out⟩

set_option maxRecDepth 100000 in
set_option maxHeartbeats 1000000 in
theorem tmatch_open (f t : ByteArray) (h1 : rfc f = 0) (h2 : tcode t = 0) (g : ByteArray) (r : List ByteArray) (hl : levels f = g :: r) (h36 : ¬ atB t 0 = 36) (w : World) : Calls Tryz.prog 21 #[.string f, .string t] w fun e w' => e = .returned (.bool (mt ((g :: r).map unB) ((levels t).map unB))) ∧ Below w.heap.size w w' := by
  have hf := rfc_zero h1
  have ht := tcode_zero h2
  have HS : Hid (f.size ≤ 1000000 ∧ t.size ≤ 1000000) := ⟨by omega, by omega⟩
  have p0 : (0 : Int) < t.size := by omega
  have p0' : 0 < t.size := ht.2
  have HL : Hid (levels f = g :: r) := hl
  have hat : atB t 0 = (t[0]'p0').toNat := atB_in t 0 p0'
  have q0 : (((t[0]'p0').toNat : Int) == 36) = false := by rw [← hat, beq_eq_false_iff_ne]; omega
  clear hf ht hl hat
  go_enter Tryz.func21, Tryz.ntmps21
  go_wp2_with (first | (go_at_call 40; refine (fcheck_any f _).mono ?_; rintro e w1 ⟨rfl, hb⟩; have B1 : Hid (Below w.heap.size w w1) := hb; clear hb; rw [h1]) | (go_at_call 20; refine (tcheck_any t _).mono ?_; rintro e w2 ⟨rfl, hb⟩; have B2 : Hid (Below w.heap.size w w2) := B1.out.trans (hb.mono B1.out.size); clear hb; rw [h2]))
  go_must (go_at_call 28)
  refine (tlevels_row f HS.out.1 _).mono ?_
  rintro e w3 ⟨v, rfl, hr, hb⟩
  rw [HL.out] at hr
  have R3 : Hid (Row w3 v (g :: r)) := hr
  have B3 : Hid (Below w.heap.size w w3) := B2.out.trans (hb.mono B2.out.size)
  obtain ⟨gb, o, n, cap, rfl, hn, hc, hg, c1, hk⟩ := hr.cons
  have hp : (0 : Int) < (n : Int) := by omega
  have HN : Hid (n = r.length + 1) := hn
  clear hb hr hn hk hg
  go_wp2_with fail
  go_must (go_at_call 28)
  refine (tlevels_row t HS.out.2 _).mono ?_
  rintro e w4 ⟨v4, rfl, hr, hb⟩
  have R4 : Hid (Row w4 v4 (levels t)) := hr
  have R5 : Hid (Row w4 (.slice (some ⟨gb, o, none⟩) n cap) (g :: r)) := R3.out.later hb
  have B4 : Hid (Below w.heap.size w w4) := B3.out.trans (hb.mono B3.out.size)
  clear hb hr
  go_wp2_with fail
  go_must (go_at_call 41)
  refine (matches_any _ _ _ _ _ R5.out R4.out).mono ?_
  rintro e w5 ⟨rfl, k5, hw5⟩
  have B5 : Hid (Below w.heap.size w w5) := by show Below _ _ _; rw [hw5]; exact below_drewN B4.out _
  clear hw5
  go_wp2_with fail
  go_ret
  exact ⟨rfl, B5.out⟩

theorem tmatch_any (f t : ByteArray) (w : World) : Calls Tryz.prog 21 #[.string f, .string t] w fun e w' => e = .returned (.bool (mch f t)) ∧ Below w.heap.size w w' := by
  by_cases h1 : rfc f = 0
  · by_cases h2 : tcode t = 0
    · obtain ⟨g, r, hl, hs⟩ := levels_head f
      have e2 : (levels t).map unB = split (unB t) := levels_split t
      have e1 : (g :: r).map unB = split (unB f) := by rw [hs]; rfl
      by_cases h36 : atB t 0 = 36
      · by_cases h43 : unB g = [43]
        · rw [show mch f t = false by simp [mch, h36, hs, hd0, h43]]
          exact tmatch_plus f t h1 h2 g r hl h36 h43 w
        · by_cases h35 : unB g = [35]
          · rw [show mch f t = false by simp [mch, h36, hs, hd0, h35]]
            exact tmatch_hash f t h1 h2 g r hl h36 h43 h35 w
          · have := tmatch_word f t h1 h2 g r hl h36 h43 h35 w
            rw [e1, e2] at this
            rw [show mch f t = mt (split (unB f)) (split (unB t)) by rw [mch, hs]; simp [h1, h2, hd0, h43, h35]]
            exact this
      · have := tmatch_open f t h1 h2 g r hl h36 w
        rw [e1, e2] at this
        rw [show mch f t = mt (split (unB f)) (split (unB t)) by simp [mch, h1, h2, h36]]
        exact this
    · rw [show mch f t = false by simp [mch, h2]]
      exact tmatch_no f t (.inr h2) w
  · rw [show mch f t = false by simp [mch, h1]]
    exact tmatch_no f t (.inl h1) w
end Go.Proofs.YtipagdhoeocjeaaGreat
namespace Go.Proofs.YtipagdhoeocjeaaGreat
open Go Go.RowKit
set_option linter.unusedSimpArgs false
set_option linter.unusedVariables false
theorem rank_any (c : UInt8) (w : World) : Calls Tryz.prog 43 #[.int .u8 (c.toNat : Int)] w fun e w' => e = .returned (.int .i64 (rk c)) ∧ w' = w := by
  by_cases h : c = 47
  · subst h
    go_enter Tryz.func43, Tryz.ntmps43
    go_wp2
    go_ret
    exact ⟨rfl, rfl⟩
  · have h1 : ¬ c.toNat = 47 := fun e => h (UInt8.toNat_inj.1 e)
    have h2 : ((c.toNat : Int) == 47) = false := by simp; omega
    have e : rk c = c.toNat := by simp [rk, h]
    rw [e]
    have hw : IntKind.i64.wrap (c.toNat : Int) = (c.toNat : Int) := by rw [IntKind.wrap_i64]; have := c.toNat_lt; omega
    clear h h1 e
    go_enter Tryz.func43, Tryz.ntmps43
    go_wp2
    go_ret
    exact ⟨rfl, rfl⟩
theorem cmpInt_any (x y : Int) (w : World) : Calls Tryz.prog 42 #[.int .i64 x, .int .i64 y] w fun e w' => e = .returned (.int .i64 (sg x y)) ∧ w' = w := by
  have hx : (x != x) = false := by simp
  have hy : (y != y) = false := by simp
  by_cases h1 : x < y
  · rw [show sg x y = -1 by simp [sg, h1]]
    go_enter Tryz.func42, Tryz.ntmps42
    go_wp2
    go_ret
    exact ⟨rfl, rfl⟩
  by_cases h2 : y < x
  · rw [show sg x y = 1 by simp [sg, h1, h2]]
    go_enter Tryz.func42, Tryz.ntmps42
    go_wp2
    go_ret
    exact ⟨rfl, rfl⟩
  rw [show sg x y = 0 by simp [sg, h1, h2]]
  go_enter Tryz.func42, Tryz.ntmps42
  go_wp2
  go_ret
  exact ⟨rfl, rfl⟩
set_option maxRecDepth 100000 in
set_option maxHeartbeats 1000000 in
theorem compare_le (a b : ByteArray) (ha : a.size ≤ 1000000) (hb : b.size ≤ 1000000) (hm : ¬ b.size < a.size) (w : World) : Calls Tryz.prog 22 #[.string a, .string b] w fun e w' => e = .returned (.int .i64 (cmpL (unB a) (unB b))) ∧ Below w.heap.size w w' := by
  have HA : Hid (a.size ≤ 1000000) := ha
  have HB : Hid (b.size ≤ 1000000) := hb
  obtain ⟨x, hx⟩ : ∃ x, x = cmpL (unB a) (unB b) := ⟨_, rfl⟩
  rw [← hx]
  have HX : Hid (x = cmpL (unB a) (unB b)) := hx
  have HM : Hid (a.size ≤ a.size ∧ a.size ≤ b.size ∧ a.size = min a.size b.size) := ⟨by omega, by omega, by omega⟩
  clear hx ha hb
  go_enter Tryz.func22, Tryz.ntmps22
  go_wp2_with fail
  clear hm
  go_loopg [11] a.size (fun g s11 wx => ∃ k : Nat, k ≤ a.size ∧ g = a.size - k ∧ s11 = .int .i64 k ∧ Hid (Below w.heap.size w wx) ∧ Hid (∀ i, i < k → (unB a)[i]? = (unB b)[i]?))
  case atStart => exact ⟨0, Nat.zero_le _, rfl, rfl, Below.refl _ _, fun i hi => absurd hi (Nat.not_lt_zero i)⟩
  case round =>
    obtain ⟨k, hk, rfl, rfl, B, HE⟩ := hrel
    by_cases hlt : k < a.size
    · have hlt' : (k : Int) < a.size := by omega
      have la : k < a.size := by have := HM.out; omega
      have lb : k < b.size := by have := HM.out; omega
      have la' : (k : Int) < a.size := by omega
      have lb' : (k : Int) < b.size := by omega
      have hw : IntKind.i64.wrap ((k : Int) + 1) = (k : Int) + 1 := by rw [IntKind.wrap_i64]; have := HA.out; omega
      obtain ⟨p, hp⟩ : ∃ p, a[k]'la = p := ⟨_, rfl⟩
      obtain ⟨q, hq⟩ : ∃ q, b[k]'lb = q := ⟨_, rfl⟩
      have HP : Hid ((unB a)[k]? = some p) := by show _ = _; rw [un_get a k la, hp]
      have HQ : Hid ((unB b)[k]? = some q) := by show _ = _; rw [un_get b k lb, hq]
      by_cases hpq : p = q
      · subst hpq
        have HE2 : Hid (∀ i, i < k + 1 → (unB a)[i]? = (unB b)[i]?) := fun i hi => by
          by_cases e : i = k
          · subst e; rw [HP.out, HQ.out]
          · exact HE.out i (by omega)
        have hne : ((p.toNat : Int) != (p.toNat : Int)) = false := by simp
        go_wp2
        go_quiet (fail)
        have hb1 : Below w.heap.size w (wr.drewN nq) := below_drewN B.out nq
        have B1 : Hid (Below w.heap.size w (wr.drewN nq)) := hb1
        clear hb1
        go_wp2
        go_roundg (a.size - (k + 1))
        case measure => omega
        case rel => exact ⟨k + 1, by omega, by omega, by first | rfl | simp, B1, HE2⟩
      · have hne : ((p.toNat : Int) != (q.toNat : Int)) = true := by
          have : ¬ p.toNat = q.toNat := fun e => hpq (UInt8.toNat_inj.1 e)
          simp; omega
        have HR : Hid (x = sg (rk p) (rk q)) := by show _ = _; rw [HX.out]; exact cmpL_part _ _ k p q HE.out HP.out HQ.out hpq
        clear hpq
        go_wp2
        go_quiet (fail)
        obtain ⟨w1, hw1⟩ : ∃ w1, w1 = wr.drewN nq := ⟨_, rfl⟩
        have hb1 : Below w.heap.size w (wr.drewN nq) := below_drewN B.out nq
        rw [← hw1] at hb1 ⊢
        have B1 : Hid (Below w.heap.size w w1) := hb1
        clear hw1 hb1 B
        go_wp2
        go_quiet (first | (go_at_call 43; exact Calls.quiet_of_same (rank_any _ _)) | (go_at_call 42; exact Calls.quiet_of_same (cmpInt_any _ _ _)))
        have hb2 : Below w.heap.size w (w1.drewN nq) := below_drewN B1.out nq
        have B2 : Hid (Below w.heap.size w (w1.drewN nq)) := hb2
        clear hb2
        go_wp2
        go_ret
        exact ⟨by rw [HR.out]; rfl, B2.out⟩
    · obtain rfl : k = a.size := by omega
      have hlt' : ¬ (a.size : Int) < a.size := by omega
      have HR : Hid (x = sg a.size b.size) := by
        show _ = _
        have h1 := HM.out
        rw [HX.out, cmpL_len _ _ (fun i hi => HE.out i (by rw [un_size, un_size] at hi; omega)), un_size, un_size]
      go_wp2_with (go_at_call 42; refine (cmpInt_any _ _ _).mono ?_; rintro e w' ⟨rfl, hee⟩; obtain rfl := hee.symm; clear hee)
      go_ret
      exact ⟨by rw [HR.out]; rfl, B.out⟩
set_option maxRecDepth 100000 in
set_option maxHeartbeats 1000000 in
theorem compare_gt (a b : ByteArray) (ha : a.size ≤ 1000000) (hb : b.size ≤ 1000000) (hm : b.size < a.size) (w : World) : Calls Tryz.prog 22 #[.string a, .string b] w fun e w' => e = .returned (.int .i64 (cmpL (unB a) (unB b))) ∧ Below w.heap.size w w' := by
  have HA : Hid (a.size ≤ 1000000) := ha
  have HB : Hid (b.size ≤ 1000000) := hb
  obtain ⟨x, hx⟩ : ∃ x, x = cmpL (unB a) (unB b) := ⟨_, rfl⟩
  rw [← hx]
  have HX : Hid (x = cmpL (unB a) (unB b)) := hx
  have HM : Hid (b.size ≤ a.size ∧ b.size ≤ b.size ∧ b.size = min a.size b.size) := ⟨by omega, by omega, by omega⟩
  clear hx ha hb
  go_enter Tryz.func22, Tryz.ntmps22
  go_wp2_with fail
  clear hm
  go_loopg [11] b.size (fun g s11 wx => ∃ k : Nat, k ≤ b.size ∧ g = b.size - k ∧ s11 = .int .i64 k ∧ Hid (Below w.heap.size w wx) ∧ Hid (∀ i, i < k → (unB a)[i]? = (unB b)[i]?))
  case atStart => exact ⟨0, Nat.zero_le _, rfl, rfl, Below.refl _ _, fun i hi => absurd hi (Nat.not_lt_zero i)⟩
  case round =>
    obtain ⟨k, hk, rfl, rfl, B, HE⟩ := hrel
    by_cases hlt : k < b.size
    · have hlt' : (k : Int) < b.size := by omega
      have la : k < a.size := by have := HM.out; omega
      have lb : k < b.size := by have := HM.out; omega
      have la' : (k : Int) < a.size := by omega
      have lb' : (k : Int) < b.size := by omega
      have hw : IntKind.i64.wrap ((k : Int) + 1) = (k : Int) + 1 := by rw [IntKind.wrap_i64]; have := HA.out; omega
      obtain ⟨p, hp⟩ : ∃ p, a[k]'la = p := ⟨_, rfl⟩
      obtain ⟨q, hq⟩ : ∃ q, b[k]'lb = q := ⟨_, rfl⟩
      have HP : Hid ((unB a)[k]? = some p) := by show _ = _; rw [un_get a k la, hp]
      have HQ : Hid ((unB b)[k]? = some q) := by show _ = _; rw [un_get b k lb, hq]
      by_cases hpq : p = q
      · subst hpq
        have HE2 : Hid (∀ i, i < k + 1 → (unB a)[i]? = (unB b)[i]?) := fun i hi => by
          by_cases e : i = k
          · subst e; rw [HP.out, HQ.out]
          · exact HE.out i (by omega)
        have hne : ((p.toNat : Int) != (p.toNat : Int)) = false := by simp
        go_wp2
        go_quiet (fail)
        have hb1 : Below w.heap.size w (wr.drewN nq) := below_drewN B.out nq
        have B1 : Hid (Below w.heap.size w (wr.drewN nq)) := hb1
        clear hb1
        go_wp2
        go_roundg (b.size - (k + 1))
        case measure => omega
        case rel => exact ⟨k + 1, by omega, by omega, by first | rfl | simp, B1, HE2⟩
      · have hne : ((p.toNat : Int) != (q.toNat : Int)) = true := by
          have : ¬ p.toNat = q.toNat := fun e => hpq (UInt8.toNat_inj.1 e)
          simp; omega
        have HR : Hid (x = sg (rk p) (rk q)) := by show _ = _; rw [HX.out]; exact cmpL_part _ _ k p q HE.out HP.out HQ.out hpq
        clear hpq
        go_wp2
        go_quiet (fail)
        obtain ⟨w1, hw1⟩ : ∃ w1, w1 = wr.drewN nq := ⟨_, rfl⟩
        have hb1 : Below w.heap.size w (wr.drewN nq) := below_drewN B.out nq
        rw [← hw1] at hb1 ⊢
        have B1 : Hid (Below w.heap.size w w1) := hb1
        clear hw1 hb1 B
        go_wp2
        go_quiet (first | (go_at_call 43; exact Calls.quiet_of_same (rank_any _ _)) | (go_at_call 42; exact Calls.quiet_of_same (cmpInt_any _ _ _)))
        have hb2 : Below w.heap.size w (w1.drewN nq) := below_drewN B1.out nq
        have B2 : Hid (Below w.heap.size w (w1.drewN nq)) := hb2
        clear hb2
        go_wp2
        go_ret
        exact ⟨by rw [HR.out]; rfl, B2.out⟩
    · obtain rfl : k = b.size := by omega
      have hlt' : ¬ (b.size : Int) < b.size := by omega
      have HR : Hid (x = sg a.size b.size) := by
        show _ = _
        have h1 := HM.out
        rw [HX.out, cmpL_len _ _ (fun i hi => HE.out i (by rw [un_size, un_size] at hi; omega)), un_size, un_size]
      go_wp2_with (go_at_call 42; refine (cmpInt_any _ _ _).mono ?_; rintro e w' ⟨rfl, hee⟩; obtain rfl := hee.symm; clear hee)
      go_ret
      exact ⟨by rw [HR.out]; rfl, B.out⟩

theorem compare_any (a b : ByteArray) (ha : a.size ≤ 1000000) (hb : b.size ≤ 1000000) (w : World) : Calls Tryz.prog 22 #[.string a, .string b] w fun e w' => e = .returned (.int .i64 (cmpL (unB a) (unB b))) ∧ Below w.heap.size w w' := by
  by_cases h : b.size < a.size
  · exact compare_gt a b ha hb h w
  · exact compare_le a b ha hb h w
end Go.Proofs.YtipagdhoeocjeaaGreat
namespace Go.Proofs.YtipagdhoeocjeaaGreat.Li
open Go Go.RowKit
set_option linter.unusedSimpArgs false
set_option linter.unusedVariables false
theorem getD_ext {xs ys : List Int} (hl : xs.length = ys.length) (h : ∀ i, i < xs.length → xs.getD i 0 = ys.getD i 0) : xs = ys := by
  apply List.ext_getElem hl
  intro i h1 h2
  have := h i h1
  rw [List.getD_eq_getElem?_getD, List.getD_eq_getElem?_getD, List.getElem?_eq_getElem h1, List.getElem?_eq_getElem h2] at this
  exact this
theorem PR.cells {w : World} {v : Value} {xs : List Int} (h : PR w v xs) : ∃ a c, v = .slice a xs.length c ∧ xs.length ≤ maxLen ∧ (0 < xs.length → ∃ b, a = some b ∧ ∀ w', Below w.heap.size w w' → ∀ i, i < xs.length → w'.cell? (b.add i) = some (.int .u8 (xs.getD i 0))) := by
  rcases h with ⟨rfl, rfl⟩ | ⟨a, n, c, rfl, rfl, h3, h4⟩
  · exact ⟨_, _, rfl, by unfold maxLen; simp, fun c => by simp at c⟩
  · exact ⟨_, _, rfl, h3, fun _ => ⟨a, rfl, fun w' hb i hi => (cell_heap (hb.block _ (World.block_lt_of_cell? _ _ (h4 i hi)))).trans (h4 i hi)⟩⟩
set_option maxRecDepth 100000 in
set_option maxHeartbeats 4000000 in
theorem sbytes_any {w : World} {v1 v2 : Value} {xs ys : List Int} (h1 : PR w v1 xs) (h2 : PR w v2 ys) :
    Calls Tryz.prog 55 #[v1, v2] w fun e w' => e = .returned (.bool (decide (xs = ys))) ∧ Below w.heap.size w w' := by
  obtain ⟨a1, c1, rfl, m1, k1⟩ := h1.cells
  obtain ⟨a2, c2, rfl, m2, k2⟩ := h2.cells
  obtain ⟨res, hres⟩ : ∃ res, res = decide (xs = ys) := ⟨_, rfl⟩
  rw [← hres]
  obtain ⟨n1, hn1⟩ : ∃ n, n = xs.length := ⟨_, rfl⟩
  obtain ⟨n2, hn2⟩ : ∃ n, n = ys.length := ⟨_, rfl⟩
  rw [← hn1, ← hn2]
  by_cases hn : n1 = n2
  · subst hn
    have q : (((n1 : Nat) : Int) != (n1 : Int)) = false := by simp
    have HN := hidi (And.intro hn1 (And.intro hn2 (show n1 ≤ maxLen from by rw [hn1]; exact m1)))
    have K1 := hidi k1
    have K2 := hidi k2
    have HR := hidi hres
    clear h1 h2 m1 m2 k1 k2 hn1 hn2 hres
    go_enter Tryz.func55, Tryz.ntmps55
    go_wp2_with fail
    go_loopg [5] n1 (fun gg s5 wx => ∃ k : Nat, k ≤ n1 ∧ gg = n1 - k ∧ s5 = .int .i64 k ∧ Hid (Below w.heap.size w wx ∧ ∀ i, i < k → xs.getD i 0 = ys.getD i 0))
    case atStart => exact ⟨0, Nat.zero_le _, rfl, rfl, Below.refl _ _, fun i hi => absurd hi (Nat.not_lt_zero i)⟩
    case round =>
      obtain ⟨k, hk, rfl, rfl, Z⟩ := hrel
      by_cases hlt : k < n1
      · have hlt' : (k : Int) < n1 := by omega
        obtain ⟨b1, rfl, q1⟩ := K1.out (by have := HN.out; omega)
        obtain ⟨b2, rfl, q2⟩ := K2.out (by have := HN.out; omega)
        obtain ⟨x, hx⟩ : ∃ x, x = xs.getD k 0 := ⟨_, rfl⟩
        obtain ⟨y, hy⟩ : ∃ y, y = ys.getD k 0 := ⟨_, rfl⟩
        have y1 : wr.cell? (b1.add k) = some (.int .u8 x) := by rw [hx]; exact q1 wr Z.out.1 k (by have := HN.out; omega)
        have y2 : wr.cell? (b2.add k) = some (.int .u8 y) := by rw [hy]; exact q2 wr Z.out.1 k (by have := HN.out; omega)
        have hw : IntKind.i64.wrap ((k : Int) + 1) = (k : Int) + 1 := by rw [IntKind.wrap_i64]; have := HN.out.2.2; unfold maxLen at this; omega
        by_cases he : x = y
        · have q : (x != y) = false := by simp [he]
          have NX := hidi (show ∀ i, i < k + 1 → xs.getD i 0 = ys.getD i 0 from fun i hi => by
            by_cases c : i = k
            · rw [c, ← hx, ← hy, he]
            · exact Z.out.2 i (by omega))
          clear hx hy he q1 q2
          go_wp2_with fail
          go_quiet (fail)
          go_wp2_with fail
          go_roundg (n1 - (k + 1))
          case measure => omega
          case rel => exact ⟨k + 1, by omega, rfl, by simp, below_drewN Z.out.1, NX.out⟩
        · have q : (x != y) = true := by simp [he]
          have FIN := hidi (show res = false from by
            rw [HR.out]
            exact decide_eq_false (fun c => he (by rw [hx, hy, c])))
          clear hx hy he q1 q2
          go_wp2_with fail
          go_quiet (fail)
          go_wp2_with fail
          go_ret
          exact ⟨by rw [FIN.out]; rfl, below_drewN Z.out.1⟩
      · have hlt' : ¬ (k : Int) < n1 := by omega
        have FIN := hidi (show res = true from by
          rw [HR.out]
          exact decide_eq_true (getD_ext (by have := HN.out; omega) (fun i hi => Z.out.2 i (by have := HN.out; omega))))
        go_wp2_with fail
        go_ret
        exact ⟨by rw [FIN.out]; rfl, Z.out.1⟩
  · have q : (((n1 : Nat) : Int) != (n2 : Int)) = true := by simp; omega
    have FIN := hidi (show res = false from by
      rw [hres]
      exact decide_eq_false (fun c => hn (by rw [hn1, hn2, c])))
    clear h1 h2 m1 m2 k1 k2 hn1 hn2 hres hn
    go_enter Tryz.func55, Tryz.ntmps55
    go_wp2_with fail
    go_ret
    exact ⟨by rw [FIN.out]; rfl, Below.refl _ _⟩
end Go.Proofs.YtipagdhoeocjeaaGreat.Li
