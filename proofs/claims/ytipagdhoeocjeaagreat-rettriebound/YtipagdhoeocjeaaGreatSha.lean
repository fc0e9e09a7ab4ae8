import Derived.Test.YtipagdhoeocjeaaGreatNu
import Derived.SizedLaws
import Derived.Deep.Slices
import Derived.Deep.Strs
import Derived.Deep.SlicePairs
import Derived.ChangeSlices
import Derived.ChangeArms
import Derived.ProofKit
import Derived.OpenShut
import Derived.ShutString
import Derived.ChangeOld
import Derived.Below
import Derived.Deep.RegionHeldLaw
import Derived.Test.YtipagdhoeocjeaaGreatNp
import Derived.Test.YtipagdhoeocjeaaGreatNk
namespace Go.Proofs.YtipagdhoeocjeaaGreat.Li
open Go Go.RowKit Go.ChangeShapes Go.WideShapes
set_option linter.unusedSimpArgs false
set_option linter.unusedVariables false
set_option maxRecDepth 100000
section
variable {H : Type} {enc : TypeId × Value → H} {W : World} {base : Nat} {held : Bool}
/-- All that a datum holds is within the reach. -/
def Wk (t : TypeId) (d : DataW H) : Prop := ∀ x ∈ d.weights Tryz.prog t, x ≤ reachBytes
theorem wtrod_field {t : TypeId} {fs : Array Field} {fuel : Nat} {cs : List Value} {x : DataW H × List MemPlace} (ht : Tryz.prog.underlying t = some (.struct fs)) (h : DataW.trod enc Tryz.prog W base (fun _ => true) held fuel t cs = some x) (hw : Wk t x.1)
    (i ty off size : Nat) (hf : ∃ f, fs[i]? = some f ∧ f.type = ty ∧ f.offset = off) (hs : Tryz.prog.cellsOf ty = size) : ∃ n y, DataW.trod enc Tryz.prog W base (fun _ => true) held n ty ((cs.drop off).take size) = some y ∧ Wk ty y.1 := by
  obtain ⟨xs, n, _, hx0, _, hl, hx⟩ := DataW.trod_struct ht h
  obtain ⟨f, hf, rfl, rfl⟩ := hf
  subst hs
  have hi : i < fs.size := (Array.getElem?_eq_some_iff.1 hf).1
  refine ⟨n, xs[i]'(by omega), by rw [hx i f hf, List.getElem?_eq_getElem], fun z hz => hw z ?_⟩
  rw [hx0]
  have e : (DataW.agg (xs.map (·.1)) : DataW H).weights Tryz.prog t = DataW.weightsEach Tryz.prog (fs.toList.map (·.type)) (xs.map (·.1)) := by simp [DataW.weights, ht]
  rw [show ((DataW.agg (xs.map (·.1)) : DataW H), xs.flatMap (·.2)).1 = DataW.agg (xs.map (·.1)) from rfl, e]
  refine DataW.weights_mem_each (j := i) (t := f.type) (d := (xs[i]'(by omega)).1) ?_ ?_ z hz
  · simp [hf]
  · simp [show i < xs.length by omega]
theorem wk_all {e : TypeId} : ∀ {el : List (DataW H)} {d : DataW H}, d ∈ el → ∀ x ∈ d.weights Tryz.prog e, x ∈ DataW.weightsAll Tryz.prog e el
  | d0 :: r, d, hd, x, hx => by
    rw [DataW.weightsAll]
    rcases List.mem_cons.1 hd with rfl | h
    · exact List.mem_append.2 (.inl hx)
    · exact List.mem_append.2 (.inr (wk_all h x hx))
theorem wk_elem {t e : TypeId} {el sp : List (DataW H)} {d : DataW H} (ht : Tryz.prog.underlying t = some (.slice e)) (hw : Wk t (.slice el sp)) (hd : d ∈ el) : Wk e d := fun x hx => hw x (by
  have := wk_all hd x hx
  simp only [DataW.weights, ht]
  exact List.mem_cons_of_mem _ (List.mem_append.2 (.inl this)))
theorem wk_len {t e : TypeId} {el sp : List (DataW H)} (ht : Tryz.prog.underlying t = some (.slice e)) (hw : Wk t (.slice el sp)) : (el.length + sp.length) * Tryz.prog.bytesOf e ≤ reachBytes := hw _ (by
  simp only [DataW.weights, ht]
  exact List.mem_cons_self)
theorem reach_is : reachBytes = 140737488351232 := by decide
theorem bplain_add (b off j : Nat) : (⟨b, off, none⟩ : Addr).add j = ⟨b, off + j, none⟩ := by
  unfold Addr.add
  split <;> simp_all
theorem bcells3 : Tryz.prog.cellsOf 3 = 1 := by kernel_rfl
theorem bcells4 : Tryz.prog.cellsOf 4 = 1 := by kernel_rfl
theorem bcells9 : Tryz.prog.cellsOf 9 = 1 := by kernel_rfl
theorem bcells28 : Tryz.prog.cellsOf 28 = 1 := by kernel_rfl
theorem str_size {s : ByteArray} : s.data.toList.length = s.size := Array.length_toList
theorem mspr {v : Value} {n : Nat} {y : DataW H × List MemPlace} (h : DataW.trod enc Tryz.prog W base (fun _ => true) held n 28 [v] = some y) (hw : Wk 28 y.1) : ∃ xs, PR W v xs ∧ xs.length ≤ 140737488355328 := by
  rcases open_ints Tryz.underlying28 Tryz.underlying5 (by kernel_rfl) h with ⟨hcs, _⟩ | ⟨x, l, c, zs, hcs, _, hl, hm, hz, hy, hcell, hwz⟩
  · simp only [List.cons.injEq, and_true] at hcs
    exact ⟨[], .inl ⟨hcs, rfl⟩, Nat.zero_le _⟩
  · simp only [List.cons.injEq, and_true] at hcs
    simp at hz
    rw [hy] at hw
    have hk := wk_len Tryz.underlying28 hw
    rw [show Tryz.prog.bytesOf 5 = 1 by kernel_rfl, reach_is] at hk
    simp [lits] at hk
    refine ⟨(List.range l).map (fun i => zs.getD i 0), .inr ⟨x, l, c, hcs, by simp, Nat.le_trans hl hm, fun i hi => ?_⟩, ?_⟩
    · rw [hcell i (by omega)]
      simp [List.getD_eq_getElem?_getD, List.getElem?_map, List.getElem?_range hi]
    · simp
      omega
theorem open_msg {cs : List Value} (hl : cs.length = 4) {n : Nat} {y : DataW H × List MemPlace} (h : DataW.trod enc Tryz.prog W base (fun _ => true) held n 30 cs = some y) (hw : Wk 30 y.1) : ∃ s : Ml, cs = [.string s.1.t, s.2, .int .i64 s.1.q, .bool s.1.r] ∧ PR W s.2 s.1.xs ∧ s.1.t.size ≤ 140737488355328 ∧ s.1.xs.length ≤ 140737488355328 := by
  match cs, hl with
  | [c0, c1, c2, c3], _ =>
    obtain ⟨n0, y0, t0, k0⟩ := wtrod_field Tryz.underlying30 h hw 0 9 0 _ ⟨_, rfl, rfl, rfl⟩ bcells9
    obtain ⟨n1, y1, t1, k1⟩ := wtrod_field Tryz.underlying30 h hw 1 28 1 _ ⟨_, rfl, rfl, rfl⟩ bcells28
    obtain ⟨n2, y2, t2, k2⟩ := wtrod_field Tryz.underlying30 h hw 2 3 2 _ ⟨_, rfl, rfl, rfl⟩ bcells3
    obtain ⟨n3, y3, t3, k3⟩ := wtrod_field Tryz.underlying30 h hw 3 4 3 _ ⟨_, rfl, rfl, rfl⟩ bcells4
    obtain ⟨s0, e0, g0, w0⟩ := DataW.trod_string Tryz.underlying9 (show DataW.trod enc Tryz.prog W base (fun _ => true) held _ 9 [c0] = _ from t0)
    obtain ⟨xs, hp, hxs⟩ := mspr (show DataW.trod enc Tryz.prog W base (fun _ => true) held _ 28 [c1] = _ from t1) k1
    obtain ⟨s2, e2, w2⟩ := DataW.trod_int Tryz.underlying3 (show DataW.trod enc Tryz.prog W base (fun _ => true) held _ 3 [c2] = _ from t2)
    obtain ⟨s3, e3, w3⟩ := DataW.trod_bool Tryz.underlying4 (show DataW.trod enc Tryz.prog W base (fun _ => true) held _ 4 [c3] = _ from t3)
    simp at e0 e2 e3
    subst e0 e2 e3
    refine ⟨(⟨s0, xs, s2, s3⟩, c1), rfl, hp, ?_, hxs⟩
    rw [g0] at k0
    have := k0 s0.data.toList.length (by simp [DataW.weights])
    rw [reach_is, str_size] at this
    show s0.size ≤ _
    omega
theorem open_msgs {a : Option Addr} {len cap : Nat} {d : DataW H} {p : List MemPlace} (hp : ∀ ad, a = some ad → ∃ b off, ad = ⟨b, off, none⟩) (h : DataW.Trod enc Tryz.prog W base (fun _ => true) held 22 (.slice a len cap) d p) (hw : Wk 22 d) : ∃ l : List Ml, MsIn W (.slice a len cap) l ∧ (∀ s ∈ l, s.1.t.size ≤ 140737488355328 ∧ s.1.xs.length ≤ 140737488355328) ∧ l.length ≤ 140737488355328 := by
  obtain ⟨fuel, hf⟩ := h
  have hf' : DataW.trod enc Tryz.prog W base (fun _ => true) held fuel 22 [.slice a len cap] = some (d, p) := hf
  rcases Go.Deep.open_slice Tryz.underlying22 hf' with ⟨hcs, _⟩ | ⟨x, l, c, m, n, D, Q, hcs, _, hl, hm, hmm, hx0, hx⟩
  · simp only [List.cons.injEq, Value.slice.injEq, and_true] at hcs
    obtain ⟨rfl, rfl, rfl⟩ := hcs
    exact ⟨[], ⟨⟨_, _, _, rfl, rfl, Nat.le_refl _, fun c => (c rfl).elim⟩, fun s hs => by cases hs⟩, fun s hs => (by cases hs), Nat.zero_le _⟩
  · simp only [List.cons.injEq, Value.slice.injEq, and_true] at hcs
    obtain ⟨rfl, rfl, rfl⟩ := hcs
    simp at hmm
    obtain ⟨b, off, rfl⟩ := hp x rfl
    have hd : d = .slice ((List.range len).map D) ((List.range (m - len)).map fun j => D (len + j)) := congrArg Prod.fst hx0
    rw [hd] at hw
    have hk := wk_len Tryz.underlying22 hw
    rw [show Tryz.prog.bytesOf 30 = 56 by kernel_rfl, reach_is] at hk
    simp at hk
    have each : ∀ i, i < len → ∃ s : Ml, (W.cell? ⟨b, off + i * 4, none⟩ = some (.string s.1.t) ∧ W.cell? ⟨b, off + i * 4 + 1, none⟩ = some s.2 ∧ W.cell? ⟨b, off + i * 4 + 2, none⟩ = some (.int .i64 s.1.q) ∧ W.cell? ⟨b, off + i * 4 + 3, none⟩ = some (.bool s.1.r)) ∧ PR W s.2 s.1.xs ∧ s.1.t.size ≤ 140737488355328 ∧ s.1.xs.length ≤ 140737488355328 := fun i hi => by
      obtain ⟨cs', h1, h2⟩ := hx i (by omega)
      rw [show Tryz.prog.cellsOf 30 = 4 by kernel_rfl, bplain_add] at h1
      obtain ⟨_, hlen, hcell⟩ := World.cells?_some h1
      obtain ⟨s, e, r⟩ := open_msg hlen h2 (wk_elem Tryz.underlying22 hw (List.mem_map.2 ⟨i, List.mem_range.2 hi, rfl⟩))
      have h0 := hcell 0 (by omega)
      have h1 := hcell 1 (by omega)
      have h2 := hcell 2 (by omega)
      have h3 := hcell 3 (by omega)
      rw [bplain_add, e] at h0 h1 h2 h3
      exact ⟨s, ⟨h0, h1, h2, h3⟩, r⟩
    haveI : Inhabited Ml := ⟨(⟨⟨#[]⟩, [], 0, false⟩, .slice none 0 0)⟩
    obtain ⟨z, hz⟩ := Go.Deep.choose_lt each
    refine ⟨(List.range len).map z, ⟨⟨_, _, _, rfl, by simp, hl, fun hne => ⟨b, off, rfl, ?_, fun i s hs => ?_⟩⟩, fun s hs => ?_⟩, fun s hs => ?_, by simp; omega⟩
    · have h0 : 0 < len := by
        rcases Nat.eq_zero_or_pos len with e | e
        · rw [e] at hne; exact (hne rfl).elim
        · exact e
      exact World.block_lt_of_cell? _ _ (hz 0 h0).1.1
    · have hi : i < len := by have := (List.getElem?_eq_some_iff.1 hs).1; simpa using this
      rw [List.getElem?_map, List.getElem?_range hi] at hs
      simp at hs
      subst hs
      exact (hz i hi).1
    · obtain ⟨i, hi, rfl⟩ := List.mem_map.1 hs
      exact (hz i (List.mem_range.1 hi)).2.1
    · obtain ⟨i, hi, rfl⟩ := List.mem_map.1 hs
      exact (hz i (List.mem_range.1 hi)).2.2
end
end Go.Proofs.YtipagdhoeocjeaaGreat.Li
namespace Go.Proofs.YtipagdhoeocjeaaGreat.Li
open Go Go.RowKit Go.Shelf
set_option linter.unusedSimpArgs false
set_option linter.unusedVariables false
variable {w : World} {tb r : Nat} {nf nn bnf : Int} {T : List Fn} {f : ByteArray} {q : Msg}
set_option maxRecDepth 100000 in
set_option maxHeartbeats 4000000 in
/-- DROP of what is not there. -/
theorem drop_no (h : TM w tb r nf (T.length : Int) T) (hfs : f.size ≤ 1000000) (hq : ∀ z, ¬ HasM T (levels f) z) :
    Calls Tryz.prog 29 #[ptr tb, .string f] w fun e w' => e = .returned (.bool false) ∧ Below w.heap.size w w' := by
  obtain ⟨rf, hrf, rA, rp⟩ := h.rt
  have LV := hidi (fun w => tlevels_any f hfs w)
  have okl : ∀ y ∈ levels f, okT y := fun y hy => by have := levels_size f y hy; unfold okT maxLen; omega
  have lle : (levels f).length ≤ 1000001 := by have := levels_len f; omega
  have AT := hidi (fun (w1 : World) (v : Value) (hb : Below w.heap.size w w1) (R : Rw w1 v (levels f)) => (show Calls Tryz.prog 44 #[ptr r, v] w1 fun e w2 => e = .returned (.pointer none) ∧ Below w.heap.size w w2 from by
    refine (at_any (h.below hb) R okl lle).mono ?_
    rintro e w2 ⟨pv, rfl, ar, b2⟩
    have bb := hb.trans (b2.mono hb.size)
    rcases ar with ⟨g', hg', e1, e2⟩ | ⟨rfl, no⟩
    · rcases (h.nd g' hg').ev with ⟨e3, e4⟩ | ⟨m, k, v', e3, e4, _⟩
      · rw [e2, e3]
        exact ⟨rfl, bb⟩
      · exact absurd ⟨g', hg', e1, e3⟩ (hq m)
    · exact ⟨rfl, bb⟩))
  have CR := hidi (fun (w1 : World) (hb : Below w.heap.size w w1) => (show w1.cell? ⟨tb, 0, none⟩ = some (ptr r) from box_cells (h.below hb).tr 0 _ rfl))
  unfold ptr at *
  clear h hfs hrf rA rp okl lle hq
  go_enter Tryz.func29, Tryz.ntmps29
  go_wp2_with (first
    | (go_at_call 28; refine (LV.out _).mono ?_; rintro e w1 ⟨v, rfl, ho, hb⟩; have B1 := hidi hb; have R1 := hidi (rw_own ho); have c0 := CR.out w1 hb; have A1 := hidi (AT.out w1 v hb R1.out); obtain ⟨va, vc, rfl⟩ := own_sl ho; clear hb ho LV AT)
    | (go_at_call 44; refine A1.out.mono ?_; rintro e w2 ⟨rfl, bb⟩; have B2 := hidi bb; clear c0 bb A1))
  go_ret
  exact ⟨rfl, B2.out⟩
set_option maxRecDepth 100000 in
set_option maxHeartbeats 4000000 in
theorem drop11_of {Q : Bool → World → Prop} (h : Calls Tryz.prog 29 #[ptr tb, .string f] w fun e w' => ∃ b, e = .returned (.bool b) ∧ Q b w') : Calls Tryz.prog 11 #[ptr tb, .string f] w fun e w' => ∃ b, e = .returned (.bool b) ∧ Q b w' := by
  have D := hidi h
  unfold ptr at *
  clear h
  go_enter Tryz.func11, Tryz.ntmps11
  go_wp2_with (go_at_call 29; refine D.out.mono ?_; rintro e w' ⟨b, rfl, dk⟩; have END := hidi dk; clear dk D)
  go_ret
  exact ⟨b, rfl, END.out⟩
/-- What get tells. -/
structure GtR (w w' : World) (T : List Fn) (F : List ByteArray) (e : Ending) : Prop where
  ex : (∃ z v, HasM T F z ∧ e = .returned (.tuple #[z.val v, .bool true]) ∧ w'.ownsRow w.heap.size 5 1 v z.xs.length (z.xs.map (Value.int .u8))) ∨ ((∀ z, ¬ HasM T F z) ∧ e = .returned (.tuple #[.agg #[.string ⟨#[]⟩, .slice none 0 0, .int .i64 0, .bool false], .bool false]))
  be : Below w.heap.size w w'
end Go.Proofs.YtipagdhoeocjeaaGreat.Li
namespace Go.Proofs.YtipagdhoeocjeaaGreat.Li
open Go Go.RowKit Go.Shelf
set_option linter.unusedSimpArgs false
set_option linter.unusedVariables false
variable {w : World} {tb r : Nat} {nf nn bnf : Int} {T : List Fn} {f : ByteArray} {q : Msg}
theorem results_row_tmp {P : Program} {fn : Func} {p u : Tmp} {ty : TypeId} (h : fn.results = #[.cell p ty, .tmp u]) (tmps : Array Value) (w : World) (g : Nat) (t : TypeId) (cs : Array Value) (fr : Nat × Nat) (d : TypeDesc)
    (hp : tmps.getD p undef = .pointer (some ⟨g, 0, none⟩)) (hg : w.heap[g]? = some (.cells cs t fr))
    (hu : P.underlying ty = some d) (hd : (match d with | .struct _ | .array _ _ => true | _ => false) = true) (hi : (P.info? ty).map (·.size) = some cs.size) :
    (results fn tmps).run P w = .ok (.tuple #[.agg cs, tmps.getD u undef]) w := by
  have hp' : tmps[p]?.getD undef = .pointer (some ⟨g, 0, none⟩) := by simpa using hp
  simp [results, h, hp', asAddr, run_loadVar_row w g t ty cs fr d hg hu hd hi]
/-- Four stores into a box of one's own. -/
theorem four_sets {w wz : World} {z0 z1 z2 z3 y0 y1 y2 y3 : Value} (hb : Below w.heap.size w wz) (hz : wz.heap[w.heap.size]? = some (.cells #[z0, z1, z2, z3] 30 (0, 0))) :
    ((((wz.setCell ⟨w.heap.size, 0, none⟩ y0).setCell ⟨w.heap.size, 1, none⟩ y1).setCell ⟨w.heap.size, 2, none⟩ y2).setCell ⟨w.heap.size, 3, none⟩ y3).heap[w.heap.size]? = some (.cells #[y0, y1, y2, y3] 30 (0, 0)) ∧
    Below w.heap.size w ((((wz.setCell ⟨w.heap.size, 0, none⟩ y0).setCell ⟨w.heap.size, 1, none⟩ y1).setCell ⟨w.heap.size, 2, none⟩ y2).setCell ⟨w.heap.size, 3, none⟩ y3) ∧
    ∀ {B n : Nat} {v : Value} {xs : List Value}, wz.ownsRow B 5 1 v n xs → ((((wz.setCell ⟨w.heap.size, 0, none⟩ y0).setCell ⟨w.heap.size, 1, none⟩ y1).setCell ⟨w.heap.size, 2, none⟩ y2).setCell ⟨w.heap.size, 3, none⟩ y3).ownsRow B 5 1 v n xs := by
  have cc : Ch (fun j => j = w.heap.size) wz ((((wz.setCell ⟨w.heap.size, 0, none⟩ y0).setCell ⟨w.heap.size, 1, none⟩ y1).setCell ⟨w.heap.size, 2, none⟩ y2).setCell ⟨w.heap.size, 3, none⟩ y3) := (((ch_set _ _ _).then (ch_set _ _ _)).then (ch_set _ _ _)).then (ch_set _ _ _)
  refine ⟨mset4 hz _ _ _ _, ⟨cc.os.trans hb.os, cc.tape.trans hb.tape, cc.output.trans hb.output, Nat.le_trans hb.size cc.size, fun k hk => (cc.block k (by have := hb.size; omega) (by omega)).trans (hb.block k hk)⟩, fun ho => own_to ho cc (fun g e cur c => by rw [e, hz] at c; cases c)⟩
set_option maxRecDepth 100000 in
set_option maxHeartbeats 4000000 in
/-- GET of a trie. -/
theorem get_any (h : TM w tb r nf nn T) (msk : ∀ f ∈ T, ∀ m, f.ms = some m → MsOk f.s.A m) (hfs : f.size ≤ 1000000) :
    Calls Tryz.prog 25 #[ptr tb, .string f] w fun e w' => GtR w w' T (levels f) e := by
  obtain ⟨rf, hrf, rA, rp⟩ := h.rt
  have LV := hidi (fun w => tlevels_any f hfs w)
  have okl : ∀ y ∈ levels f, okT y := fun y hy => by have := levels_size f y hy; unfold okT maxLen; omega
  have lle : (levels f).length ≤ 1000001 := by have := levels_len f; omega
  obtain ⟨w1, hw1⟩ : ∃ w1, w1 = w.alloc (.cells #[.string ⟨#[]⟩, .slice none 0 0, .int .i64 0, .bool false] 30) := ⟨_, rfl⟩
  have b1 : Below w.heap.size w w1 := by rw [hw1]; exact (Below.refl _ _).alloc (Nat.le_refl _) _
  have z1 : w1.heap[w.heap.size]? = some (.cells #[.string ⟨#[]⟩, .slice none 0 0, .int .i64 0, .bool false] 30 (0, 0)) := by rw [hw1]; exact heap_alloc_new _ _
  have AT := hidi (fun (wx : World) (v : Value) (hb : Below w1.heap.size w1 wx) (R : Rw wx v (levels f)) => (show Calls Tryz.prog 44 #[ptr r, v] wx fun e w2 => ∃ pv, e = .returned (.pointer pv) ∧ ((pv = none ∧ ∀ z, ¬ HasM T (levels f) z) ∨ ∃ k z v, pv = some ⟨k, 0, none⟩ ∧ HasM T (levels f) z ∧ z.xs.length ≤ 60000 ∧ w2.heap[k]? = some (.cells (z.cs v) 30 (0, 0)) ∧ Pl w2 v z.xs) ∧ Below wx.heap.size wx w2 from by
    have bb := b1.trans (hb.mono b1.size)
    refine (at_any (h.below bb) R okl lle).mono ?_
    rintro e w2 ⟨pv, rfl, ar, b2⟩
    refine ⟨pv, rfl, ?_, b2⟩
    rcases ar with ⟨g', hg', e1, e2⟩ | ⟨rfl, no⟩
    · rcases (((h.below bb).below b2).nd g' hg').ev with ⟨e3, e4⟩ | ⟨m, k, v', e3, e4, e5, e6⟩
      · rw [e3] at e2
        cases e2
        refine .inl ⟨rfl, fun z ⟨f', hf', a, b⟩ => ?_⟩
        obtain rfl := h.same hf' hg' (a.trans e1.symm)
        rw [e4] at b; cases b
      · rw [e4] at e2
        cases e2
        exact .inr ⟨k, m, v', rfl, ⟨g', hg', e1, e3⟩, (msk g' hg' m e3).2.2.2.1, e5, e6⟩
    · exact .inl ⟨rfl, fun z ⟨f', hf', a, b⟩ => no f' hf' a⟩))
  have CR := hidi (fun (wx : World) (hb : Below w1.heap.size w1 wx) => (show wx.cell? ⟨tb, 0, none⟩ = some (ptr r) from box_cells (h.below (b1.trans (hb.mono b1.size))).tr 0 _ rfl))
  have B1 := hidi b1
  have Z1 := hidi z1
  have HC := hidi ((Below.refl w1.heap.size w1).drew)
  unfold ptr at *
  clear h hfs hrf rA rp okl lle b1 z1 msk
  go_enter Tryz.func25, Tryz.ntmps25
  go_upto_region 1 with fail
  rw [← hw1]
  clear hw1
  go_cut [6] from 7 (fun s6 wx => ∃ pv, s6 = .pointer pv ∧ Hid ((pv = none ∧ ∀ z, ¬ HasM T (levels f) z) ∨ ∃ k z v, pv = some ⟨k, 0, none⟩ ∧ HasM T (levels f) z ∧ z.xs.length ≤ 60000 ∧ wx.heap[k]? = some (.cells (z.cs v) 30 (0, 0)) ∧ Pl wx v z.xs) ∧ Hid (Below w1.heap.size w1 wx))
  case first =>
    go_region_held (fun w' => w'.cell? ⟨tb, 0, none⟩ = some (.pointer (some ⟨r, 0, none⟩))) (exact CR.out _ HC.out) (first
      | (go_at_call 28; refine (LV.out _).mono ?_; rintro e w2 ⟨v, rfl, ho, hb⟩; have R1 := hidi (rw_own ho); obtain ⟨va, vc, rfl⟩ := own_sl ho; have HC := hidi (HC.out.trans (hb.mono HC.out.size)); have A1 := hidi (AT.out _ _ HC.out R1.out); clear hb ho LV)
      | (go_at_call 44; refine A1.out.mono ?_; rintro e w3 ⟨pv, rfl, hh, hb⟩; have HH := hidi hh; have HC := hidi (HC.out.trans (hb.mono HC.out.size)); clear hh hb A1))
    all_goals go_wp2_with fail
    all_goals go_meet
    all_goals exact ⟨_, rfl, HH.out, HC.out⟩
  case rest =>
    obtain ⟨pv, rfl, HH, BC⟩ := hcut
    have zc := later_at Z1.out BC.out
    have BW := hidi (B1.out.trans (BC.out.mono B1.out.size))
    have ZC := hidi zc
    clear zc AT CR LV HC
    rcases HH.out with ⟨rfl, no⟩ | ⟨k, z, v, rfl, hm, hx, e5, e6⟩
    · have NO := hidi no
      have FS := hidi (four_sets (y0 := .string ⟨#[]⟩) (y1 := .slice none 0 0) (y2 := .int .i64 0) (y3 := .bool false) BW.out ZC.out)
      have zc := ZC.out
      have j0 := box_cells zc 0 _ rfl
      have j1 := box_cells zc 1 _ rfl
      have j2 := box_cells zc 2 _ rfl
      have j3 := box_cells zc 3 _ rfl
      have l0 := box_frozen zc 0
      have l1 := box_frozen zc 1
      have l2 := box_frozen zc 2
      have l3 := box_frozen zc 3
      clear no zc
      go_wp2_with fail
      obtain ⟨q1, q2, q3⟩ := FS.out
      exact bodyPost_ret (results_row_tmp rfl _ _ w.heap.size 30 _ (0, 0) _ rfl q1 Tryz.underlying30 rfl (by kernel_rfl)) rfl ⟨.inr ⟨NO.out, rfl⟩, q2⟩
    · have AP := hidi (apart_any z (e6.pr (by unfold maxLen; omega)) (by omega))
      obtain ⟨b0, b1, b2, b3⟩ := box4 e5
      obtain ⟨va, vc, rfl⟩ := own_sl e6
      have HM := hidi hm
      unfold Msg.val Msg.cs at *
      clear hm hx e5 e6
      go_wp2_with (go_at_call 45; refine AP.out.mono ?_; rintro e wd ⟨v', rfl, ho, hb⟩; obtain ⟨a', c', rfl⟩ := own_sl ho; have zd := later_at ZC.out hb; have FS := hidi (four_sets (y0 := .string z.t) (y1 := .slice a' z.xs.length c') (y2 := .int .i64 z.q) (y3 := .bool z.r) (BW.out.trans (hb.mono BW.out.size)) zd); have HO := hidi ho; have j0 := box_cells zd 0 _ rfl; have j1 := box_cells zd 1 _ rfl; have j2 := box_cells zd 2 _ rfl; have j3 := box_cells zd 3 _ rfl; have l0 := box_frozen zd 0; have l1 := box_frozen zd 1; have l2 := box_frozen zd 2; have l3 := box_frozen zd 3; clear zd ho hb AP b0 b1 b2 b3)
      obtain ⟨q1, q2, q3⟩ := FS.out
      exact bodyPost_ret (results_row_tmp rfl _ _ w.heap.size 30 _ (0, 0) _ rfl q1 Tryz.underlying30 rfl (by kernel_rfl)) rfl ⟨.inl ⟨z, _, HM.out, rfl, row_base (q3 HO.out) (fun g e => by have := row_ge HO.out e; have := BW.out.size; omega)⟩, q2⟩
end Go.Proofs.YtipagdhoeocjeaaGreat.Li
namespace Go.Proofs.YtipagdhoeocjeaaGreat.Li
open Go Go.RowKit Go.Shelf
set_option linter.unusedSimpArgs false
set_option linter.unusedVariables false
variable {w : World} {tb r : Nat} {nf nn bnf : Int} {T : List Fn} {f : ByteArray} {q : Msg}
set_option maxRecDepth 100000 in
set_option maxHeartbeats 4000000 in
/-- GET. -/
theorem Get_any (h : TM w tb r nf nn T) (msk : ∀ f ∈ T, ∀ m, f.ms = some m → MsOk f.s.A m) (hfs : f.size ≤ 1000000) :
    Calls Tryz.prog 8 #[ptr tb, .string f] w fun e w' => GtR w w' T (levels f) e := by
  obtain ⟨w1, hw1⟩ : ∃ w1, w1 = w.alloc (.cells #[.string ⟨#[]⟩, .slice none 0 0, .int .i64 0, .bool false] 30) := ⟨_, rfl⟩
  have b1 : Below w.heap.size w w1 := by rw [hw1]; exact (Below.refl _ _).alloc (Nat.le_refl _) _
  have z1 : w1.heap[w.heap.size]? = some (.cells #[.string ⟨#[]⟩, .slice none 0 0, .int .i64 0, .bool false] 30 (0, 0)) := by rw [hw1]; exact heap_alloc_new _ _
  have GT := hidi (show Calls Tryz.prog 25 #[ptr tb, .string f] w1 fun e w' => ∃ (t : ByteArray) (a : Option Addr) (n c : Nat) (y : Int) (b d : Bool), e = .returned (.tuple #[.agg #[.string t, .slice a n c, .int .i64 y, .bool b], .bool d]) ∧ Hid (GtR w1 w' T (levels f) (.returned (.tuple #[.agg #[.string t, .slice a n c, .int .i64 y, .bool b], .bool d]))) from by
    refine (get_any (h.below b1) msk hfs).mono ?_
    intro e w' g
    rcases g.ex with ⟨z, v, hm, rfl, ho⟩ | ⟨no, rfl⟩
    · obtain ⟨a, c, rfl⟩ := own_sl ho
      exact ⟨_, _, _, _, _, _, _, rfl, g⟩
    · exact ⟨_, _, _, _, _, _, _, rfl, g⟩)
  have B1 := hidi b1
  have Z1 := hidi z1
  unfold ptr at *
  clear h hfs b1 z1 msk
  go_enter Tryz.func8, Tryz.ntmps8
  go_upto_region 1 with fail
  rw [← hw1]
  clear hw1
  go_wp2_with (go_at_call 25; refine GT.out.mono ?_; rintro e wd ⟨t, a, n, c, y, b, d, rfl, g⟩; have zd := later_at Z1.out g.out.be; have FS := hidi (four_sets (y0 := .string t) (y1 := .slice a n c) (y2 := .int .i64 y) (y3 := .bool b) (B1.out.trans (g.out.be.mono B1.out.size)) zd); have G := hidi g.out; have j0 := box_cells zd 0 _ rfl; have j1 := box_cells zd 1 _ rfl; have j2 := box_cells zd 2 _ rfl; have j3 := box_cells zd 3 _ rfl; have l0 := box_frozen zd 0; have l1 := box_frozen zd 1; have l2 := box_frozen zd 2; have l3 := box_frozen zd 3; clear zd g GT)
  obtain ⟨q1, q2, q3⟩ := FS.out
  refine bodyPost_ret (results_row_tmp rfl _ _ w.heap.size 30 _ (0, 0) _ rfl q1 Tryz.underlying30 rfl (by kernel_rfl)) rfl ⟨?_, q2⟩
  rcases G.out.ex with ⟨z, v, hm, he, ho⟩ | ⟨no, he⟩
  · refine .inl ⟨z, v, hm, he, ?_⟩
    have hv : v = .slice a n c := by
      unfold Msg.val Msg.cs at he
      simp only [Ending.returned.injEq, Value.tuple.injEq, Array.mk.injEq, List.cons.injEq, Value.agg.injEq] at he
      exact he.1.2.1.symm
    exact row_base (q3 ho) (fun g e => by have := row_ge ho e; have := B1.out.size; omega)
  · exact .inr ⟨no, he⟩
end Go.Proofs.YtipagdhoeocjeaaGreat.Li
namespace Go.Proofs.YtipagdhoeocjeaaGreat.Li
open Go Go.RowKit
set_option linter.unusedSimpArgs false
set_option linter.unusedVariables false
theorem pre_anti {A B : List ByteArray} (h1 : A <+: B) (h2 : B <+: A) : A = B := by
  obtain ⟨t, e⟩ := h1
  have l1 := congrArg List.length e
  have l2 := h2.length_le
  rw [List.length_append] at l1
  have : t = [] := List.length_eq_zero_iff.1 (by omega)
  rw [← e, this, List.append_nil]
theorem lcp_comm (F G : List ByteArray) : lcp F G = lcp G F :=
  pre_anti (pre_lcp (lcp_pre F G).2 (lcp_pre F G).1) (pre_lcp (lcp_pre G F).2 (lcp_pre G F).1)
theorem pre_len {A B C : List ByteArray} (h1 : A <+: C) (h2 : B <+: C) (e : A.length = B.length) : A = B := pre_anti (prefix_le h1 h2 (by omega)) (prefix_le h2 h1 (by omega))
/-- The one of a list that has most in common with H. -/
def best (H : List ByteArray) : List (List ByteArray) → List ByteArray
  | [] => []
  | G :: L => if (lcp H (best H L)).length ≤ (lcp H G).length then G else best H L
theorem best_mem (H : List ByteArray) : ∀ {L : List (List ByteArray)}, L ≠ [] → best H L ∈ L
  | [], h => (h rfl).elim
  | G :: L, _ => by
    unfold best
    by_cases c : (lcp H (best H L)).length ≤ (lcp H G).length
    · rw [if_pos c]; exact List.mem_cons_self
    · rw [if_neg c]
      refine List.mem_cons_of_mem _ (best_mem H (fun e => c ?_))
      rw [e]
      simp [best, lcp, alk]
theorem best_le (H : List ByteArray) : ∀ {L : List (List ByteArray)} {G : List ByteArray}, G ∈ L → (lcp H G).length ≤ (lcp H (best H L)).length
  | [], G, h => by cases h
  | G' :: L, G, h => by
    unfold best
    by_cases c : (lcp H (best H L)).length ≤ (lcp H G').length
    · rw [if_pos c]
      rcases List.mem_cons.1 h with rfl | h
      · exact Nat.le_refl _
      · exact Nat.le_trans (best_le H h) c
    · rw [if_neg c]
      rcases List.mem_cons.1 h with rfl | h
      · omega
      · exact best_le H h
/-- All that filters have in common, two by two. -/
def cov : List (List ByteArray) → List (List ByteArray)
  | [] => []
  | H :: L => H :: lcp H (best H L) :: cov L
theorem cov_len : ∀ L : List (List ByteArray), (cov L).length = 2 * L.length
  | [] => rfl
  | H :: L => by
    have := cov_len L
    unfold cov
    simp only [List.length_cons]
    omega
theorem pre_next {A C : List ByteArray} (p : A <+: C) (l : A.length < C.length) : ∃ x, (A ++ [x]) <+: C := by
  obtain ⟨t, e⟩ := p
  cases t with
  | nil => rw [List.append_nil] at e; rw [e] at l; omega
  | cons x t => exact ⟨x, t, by rw [← e]; simp⟩
theorem lcp_short {H G G' : List ByteArray} (h : (lcp H G).length < (lcp H G').length) : lcp H G = lcp G' G := by
  have p := lcp_pre H G
  have p' := lcp_pre H G'
  have pp : lcp H G <+: lcp H G' := prefix_le p.1 p'.1 (by omega)
  have le : lcp H G <+: lcp G' G := pre_lcp (pp.trans p'.2) p.2
  refine Classical.byContradiction fun ne => ?_
  have lt : (lcp H G).length < (lcp G' G).length := by
    rcases Nat.lt_or_ge (lcp H G).length (lcp G' G).length with q | q
    · exact q
    · exact absurd (pre_len le (List.prefix_refl _) (Nat.le_antisymm le.length_le q)) ne
  obtain ⟨x, hx⟩ := pre_next pp h
  obtain ⟨y, hy⟩ := pre_next le lt
  have q := lcp_pre G' G
  have e : lcp H G ++ [x] = lcp H G ++ [y] := pre_len (hx.trans p'.2) (hy.trans q.1) (by rw [List.length_append, List.length_append]; rfl)
  have := (pre_lcp (hx.trans p'.1) (by rw [e]; exact hy.trans q.2)).length_le
  rw [List.length_append, List.length_singleton] at this
  omega
theorem cov_all : ∀ {L : List (List ByteArray)} {F G : List ByteArray}, F ∈ L → G ∈ L → lcp F G ∈ cov L
  | [], _, _, h, _ => by cases h
  | H :: L, F, G, hF, hG => by
    have one : ∀ {G}, G ∈ L → lcp H G ∈ cov (H :: L) := fun {G} h => by
      have le := best_le H h
      rcases Nat.lt_or_ge (lcp H G).length (lcp H (best H L)).length with c | c
      · rw [lcp_short c]
        exact List.mem_cons_of_mem _ (List.mem_cons_of_mem _ (cov_all (best_mem H (fun e => by rw [e] at h; cases h)) h))
      · rw [pre_len (lcp_pre H G).1 (lcp_pre H (best H L)).1 (by omega)]
        exact List.mem_cons_of_mem _ List.mem_cons_self
    rcases List.mem_cons.1 hF with e1 | h1
    · rw [e1]
      rcases List.mem_cons.1 hG with e2 | h2
      · rw [e2, lcp_self]; exact List.mem_cons_self
      · exact one h2
    · rcases List.mem_cons.1 hG with e2 | h2
      · rw [e2, lcp_comm]; exact one h1
      · exact List.mem_cons_of_mem _ (List.mem_cons_of_mem _ (cov_all h1 h2))
variable {w : World} {tb r P : Nat} {nf nn : Int} {T : List Fn}
/-- NO MORE NODES THAN TWICE THE FILTERS AND THE ROOT. -/
theorem bound_tm (h : TM w tb r nf nn T) (fx : FormX T []) (cn : CN T nf) : (T.length : Int) ≤ 2 * nf + 1 := by
  obtain ⟨Fs, f1, f2, f3⟩ := cn
  have nd : (T.map (fun f => f.s.A)).Nodup := by
    have := h.inv.dis
    rw [List.pairwise_map] at this
    exact List.pairwise_map.2 this
  have := nodup_le (T.map (fun f => f.s.A)) ([] :: cov Fs) nd (fun A hA => by
    obtain ⟨f, hf, e⟩ := List.mem_map.1 hA
    rcases (nodes_iff h fx A).1 ⟨f, hf, e⟩ with rfl | ⟨f, hf, g, hg, h1, h2, rfl⟩
    · exact List.mem_cons_self
    · exact List.mem_cons_of_mem _ (cov_all ((f2 _).2 ⟨f, hf, rfl, h1⟩) ((f2 _).2 ⟨g, hg, rfl, h2⟩)))
  rw [List.length_map, List.length_cons, cov_len] at this
  omega
end Go.Proofs.YtipagdhoeocjeaaGreat.Li
namespace Go.Proofs.YtipagdhoeocjeaaGreat.Li
open Go Go.RowKit Go.Shelf
set_option linter.unusedSimpArgs false
set_option linter.unusedVariables false
theorem own_blk {w w' : World} {B e s n : Nat} {v : Value} {xs : List Value} (h : w.ownsRow B e s v n xs) (hb : ∀ g, v.ownBlock = some g → w'.heap[g]? = w.heap[g]?) : w'.ownsRow B e s v n xs := by
  refine ⟨h.1, ?_⟩
  rcases h.2 with q | ⟨g, cap, cur, rfl, a, b, c⟩
  · exact .inl q
  · exact .inr ⟨g, cap, cur, rfl, a, (hb g rfl).trans b, c⟩
/-- What a shape's levels, message and kids are. -/
abbrev V3 := Value × Value × Value
def shc (l : List V3) : List Value := l.flatMap fun u => [u.1, u.2.1, .slice none 0 0, u.2.2]
theorem shc_app (l k : List V3) : shc (l ++ k) = shc l ++ shc k := by simp [shc]
theorem shc_len (l : List V3) : (shc l).length = l.length * 4 := by
  induction l with
  | nil => rfl
  | cons a l ih => simp only [shc, List.flatMap_cons, List.length_append, List.length_cons, List.length_nil] at ih ⊢; omega
/-- THE SHAPE OF A NODE IN MEMORY, V its blocks. -/
inductive ShAt (w : World) (V : Nat → Prop) (T : List Fn) : Fn → V3 → Prop
  | mk (f : Fn) (u : V3) (K : List Fn) (vs : List V3)
      (lv : w.ownsRow 0 9 1 u.1 f.s.m (f.s.edge.map Value.string)) (lV : ∀ g, u.1.ownBlock = some g → V g)
      (hr : u.2.1 = .bool f.ms.isSome)
      (ks : KidsOrd T f K) (len : vs.length = K.length)
      (kd : w.ownsRow 0 49 4 u.2.2 vs.length (shc vs)) (kV : ∀ g, u.2.2.ownBlock = some g → V g)
      (sub : ∀ (i : Nat) (q : Fn) (v : V3), K[i]? = some q → vs[i]? = some v → ShAt w V T q v) : ShAt w V T f u
theorem ShAt.keep {w w' : World} {V V' : Nat → Prop} {T : List Fn} {f : Fn} {u : V3} (h : ShAt w V T f u) (hb : ∀ g, V g → w'.heap[g]? = w.heap[g]?) (hV : ∀ g, V g → V' g) : ShAt w' V' T f u := by
  induction h with
  | mk f u K vs lv lV hr ks len kd kV sub ih =>
    exact .mk f u K vs (own_blk lv (fun g e => hb g (lV g e))) (fun g e => hV g (lV g e)) hr ks len (own_blk kd (fun g e => hb g (kV g e))) (fun g e => hV g (kV g e)) ih
/-- Rows of cells, from a block on. -/
def VC (n₀ : Nat) (w : World) (V : Nat → Prop) : Prop := ∀ k, V k → n₀ ≤ k ∧ ∃ cs t, w.heap[k]? = some (.cells cs t (0, 0))
theorem VC.lt {n₀ : Nat} {w : World} {V : Nat → Prop} (h : VC n₀ w V) {k : Nat} (hk : V k) : k < w.heap.size := by
  obtain ⟨_, cs, t, e⟩ := h k hk
  exact (Array.getElem?_eq_some_iff.1 e).1
theorem VC.keep {n₀ : Nat} {w w' : World} {V : Nat → Prop} (h : VC n₀ w V) (hb : ∀ k, V k → w'.heap[k]? = w.heap[k]?) : VC n₀ w' V := fun k hk => by
  obtain ⟨a, cs, t, e⟩ := h k hk
  exact ⟨a, cs, t, (hb k hk).trans e⟩
/-- What shape leaves. -/
structure ShR (w w' : World) (T : List Fn) (f : Fn) (u : V3) (V : Nat → Prop) : Prop where
  sh : ShAt w' V T f u
  vc : VC w.heap.size w' V
  be : Below w.heap.size w w'
/-- The state while the kids come. -/
structure Sq (n₀ B2 B3 : Nat) (T : List Fn) (f : Fn) (ul ue vk : Value) (K : List Fn) (vs : List V3) (V : Nat → Prop) (w : World) : Prop where
  b2 : w.heap[B2]? = some (.cells #[.slice none 0 0, .bool false, .slice none 0 0, .slice none 0 0] 49 (0, 0))
  b3 : w.heap[B3]? = some (.cells #[ul, ue, .slice none 0 0, vk] 49 (0, 0))
  ne : B2 ≠ B3
  lo : n₀ ≤ B2 ∧ n₀ ≤ B3
  lv : w.ownsRow 0 9 1 ul f.s.m (f.s.edge.map Value.string)
  hr : ue = .bool f.ms.isSome
  lV : ∀ g, ul.ownBlock = some g → V g
  vc : VC n₀ w V
  v2 : ¬ V B2 ∧ ¬ V B3
  row : w.ownsRow n₀ 49 4 vk vs.length (shc vs)
  rV : ∀ g, vk.ownBlock = some g → ¬ V g ∧ g ≠ B2 ∧ g ≠ B3
  len : vs.length = K.length
  sub : ∀ (i : Nat) (q : Fn) (v : V3), K[i]? = some q → vs[i]? = some v → ShAt w V T q v
variable {n₀ B2 B3 : Nat} {T : List Fn} {f : Fn} {ul ue vk : Value} {K : List Fn} {vs : List V3} {V : Nat → Prop} {w w' : World}
/-- The blocks that the state speaks of. -/
def Sb3 (B2 B3 : Nat) (vk : Value) (V : Nat → Prop) (k : Nat) : Prop := k = B2 ∨ k = B3 ∨ vk.ownBlock = some k ∨ V k
theorem Sq.cells (h : Sq n₀ B2 B3 T f ul ue vk K vs V w) {k : Nat} (hk : Sb3 B2 B3 vk V k) : n₀ ≤ k ∧ ∃ cs t, w.heap[k]? = some (.cells cs t (0, 0)) := by
  rcases hk with rfl | rfl | e | e
  · exact ⟨h.lo.1, _, _, h.b2⟩
  · exact ⟨h.lo.2, _, _, h.b3⟩
  · obtain ⟨cur, q⟩ := own_lt h.row e
    exact ⟨row_ge h.row e, _, _, q⟩
  · exact h.vc k e
theorem Sq.keep (h : Sq n₀ B2 B3 T f ul ue vk K vs V w) (hb : ∀ k, Sb3 B2 B3 vk V k → w'.heap[k]? = w.heap[k]?) : Sq n₀ B2 B3 T f ul ue vk K vs V w' :=
  ⟨(hb _ (.inl rfl)).trans h.b2, (hb _ (.inr (.inl rfl))).trans h.b3, h.ne, h.lo, own_blk h.lv (fun g e => hb g (.inr (.inr (.inr (h.lV g e))))), h.hr, h.lV, h.vc.keep (fun k hk => hb k (.inr (.inr (.inr hk)))), h.v2, own_blk h.row (fun g e => hb g (.inr (.inr (.inl e)))), h.rV, h.len, fun i q v a b => (h.sub i q v a b).keep (fun g e => hb g (.inr (.inr (.inr e)))) (fun _ e => e)⟩
theorem Sq.below (h : Sq n₀ B2 B3 T f ul ue vk K vs V w) (hb : Below w.heap.size w w') : Sq n₀ B2 B3 T f ul ue vk K vs V w' := h.keep (fun k hk => by
  obtain ⟨_, cs, t, e⟩ := h.cells hk
  exact hb.block k (Array.getElem?_eq_some_iff.1 e).1)
theorem info49 : (Tryz.prog.info? 49).map (fun i => (i.zero, i.size, i.bytes)) = some (some (.agg #[.slice none 0 0, .bool false, .slice none 0 0, .slice none 0 0]), 4, 80) := by kernel_rfl
/-- One more kid. -/
structure Sn (w1 w2 : World) (g k : Nat) (B3 : Nat) (ul ue v' : Value) (xs : List Value) (u : V3) : Prop where
  row : w2.ownsRow 0 49 4 v' (k + 1) (xs ++ [u.1, u.2.1, .slice none 0 0, u.2.2])
  b3 : w2.heap[B3]? = some (.cells #[ul, ue, .slice none 0 0, v'] 49 (0, 0))
  ch : Ch (fun j => j = g ∨ j = B3) w1 w2
theorem set4 {w : World} {g c k : Nat} {xs : List Value} {a b d : Value} {z0 z1 z2 z3 : Value} (h : w.ownsRow 0 49 4 (.slice (some ⟨g, 0, none⟩) (k + 1) c) (k + 1) (xs ++ [z0, z1, z2, z3])) (hl : xs.length = k * 4) :
    ((((w.setCell ⟨g, k * 4, none⟩ a).setCell ⟨g, k * 4 + 1, none⟩ b).setCell ⟨g, k * 4 + 2, none⟩ (.slice none 0 0)).setCell ⟨g, k * 4 + 3, none⟩ d).ownsRow 0 49 4 (.slice (some ⟨g, 0, none⟩) (k + 1) c) (k + 1) (xs ++ [a, b, .slice none 0 0, d]) := by
  have := (((h.stored (k * 4) a).1.stored (k * 4 + 1) b).1.stored (k * 4 + 2) (.slice none 0 0)).1.stored (k * 4 + 3) d
  have e : ((((xs ++ [z0, z1, z2, z3]).set (k * 4) a).set (k * 4 + 1) b).set (k * 4 + 2) (.slice none 0 0)).set (k * 4 + 3) d = xs ++ [a, b, .slice none 0 0, d] := by
    rw [← hl, List.set_append_right _ _ (by omega), List.set_append_right _ _ (by omega), List.set_append_right _ _ (by omega), List.set_append_right _ _ (by omega)]
    simp
  rw [e] at this
  exact this.1
theorem sn_a {w : World} {g c k : Nat} {xs : List Value} {u : V3} {z0 z1 z2 z3 o : Value} (h : w.ownsRow 0 49 4 (.slice (some ⟨g, 0, none⟩) (k + 1) c) (k + 1) (xs ++ [z0, z1, z2, z3])) (hl : xs.length = k * 4) (hb : w.heap[B3]? = some (.cells #[ul, ue, .slice none 0 0, o] 49 (0, 0))) (hg : g ≠ B3) :
    Sn w (((((w.setCell ⟨g, k * 4, none⟩ u.1).setCell ⟨g, k * 4 + 1, none⟩ u.2.1).setCell ⟨g, k * 4 + 2, none⟩ (.slice none 0 0)).setCell ⟨g, k * 4 + 3, none⟩ u.2.2).setCell ⟨B3, 3, none⟩ (.slice (some ⟨g, 0, none⟩) (k + 1) c)) g k B3 ul ue (.slice (some ⟨g, 0, none⟩) (k + 1) c) xs u := by
  have r := set4 (a := u.1) (b := u.2.1) (d := u.2.2) h hl
  have c4 : Ch (fun j => j = g) w ((((w.setCell ⟨g, k * 4, none⟩ u.1).setCell ⟨g, k * 4 + 1, none⟩ u.2.1).setCell ⟨g, k * 4 + 2, none⟩ (.slice none 0 0)).setCell ⟨g, k * 4 + 3, none⟩ u.2.2) := (((ch_set g _ _).then (ch_set g _ _)).then (ch_set g _ _)).then (ch_set g _ _)
  have b4 := (c4.block B3 (Array.getElem?_eq_some_iff.1 hb).1 (fun e => hg e.symm)).trans hb
  refine ⟨own_blk r (fun j e => ?_), by rw [heap_set b4]; rfl, (c4.mono (fun j _ e => .inl e)).then ((ch_set B3 3 _).mono (fun j _ e => .inr e))⟩
  cases e
  exact heap_set_ne _ hg
theorem sn_b {w : World} {g c k : Nat} {xs : List Value} {u : V3} {z0 z1 z2 z3 o : Value} (h : w.ownsRow 0 49 4 (.slice (some ⟨g, 0, none⟩) (k + 1) c) (k + 1) (xs ++ [z0, z1, z2, z3])) (hl : xs.length = k * 4) (hb : w.heap[B3]? = some (.cells #[ul, ue, .slice none 0 0, o] 49 (0, 0))) (hg : g ≠ B3) :
    Sn w (((((w.setCell ⟨B3, 3, none⟩ (.slice (some ⟨g, 0, none⟩) (k + 1) c)).setCell ⟨g, k * 4, none⟩ u.1).setCell ⟨g, k * 4 + 1, none⟩ u.2.1).setCell ⟨g, k * 4 + 2, none⟩ (.slice none 0 0)).setCell ⟨g, k * 4 + 3, none⟩ u.2.2) g k B3 ul ue (.slice (some ⟨g, 0, none⟩) (k + 1) c) xs u := by
  have h' := own_blk (w' := w.setCell ⟨B3, 3, none⟩ (.slice (some ⟨g, 0, none⟩) (k + 1) c)) h (fun j e => by cases e; exact heap_set_ne _ hg)
  have r := set4 (a := u.1) (b := u.2.1) (d := u.2.2) h' hl
  have c4 : Ch (fun j => j = g) (w.setCell ⟨B3, 3, none⟩ (.slice (some ⟨g, 0, none⟩) (k + 1) c)) (((((w.setCell ⟨B3, 3, none⟩ (.slice (some ⟨g, 0, none⟩) (k + 1) c)).setCell ⟨g, k * 4, none⟩ u.1).setCell ⟨g, k * 4 + 1, none⟩ u.2.1).setCell ⟨g, k * 4 + 2, none⟩ (.slice none 0 0)).setCell ⟨g, k * 4 + 3, none⟩ u.2.2) := (((ch_set g _ _).then (ch_set g _ _)).then (ch_set g _ _)).then (ch_set g _ _)
  have b1 : (w.setCell ⟨B3, 3, none⟩ (.slice (some ⟨g, 0, none⟩) (k + 1) c)).heap[B3]? = some (.cells #[ul, ue, .slice none 0 0, .slice (some ⟨g, 0, none⟩) (k + 1) c] 49 (0, 0)) := by rw [heap_set hb]; rfl
  refine ⟨r, (c4.block B3 (Array.getElem?_eq_some_iff.1 b1).1 (fun e => hg e.symm)).trans b1, ((ch_set B3 3 _).mono (fun j _ e => .inr e)).then (c4.mono (fun j _ e => .inl e))⟩
theorem Sq.step {w1 w2 : World} {q : Fn} {u : V3} {Vn : Nat → Prop} {v' : Value} {N g : Nat} (h : Sq n₀ B2 B3 T f ul ue vk K vs V w) (sh : ShAt w Vn T q u) (vn : VC N w Vn) (hN : ∀ k, Sb3 B2 B3 vk V k → k < N) (h0 : n₀ ≤ N)
    (c1 : Ch (fun j => vk.ownBlock = some j) w w1) (hg : v'.ownBlock = some g) (gg : vk.ownBlock = some g ∨ w.heap.size ≤ g) (sn : Sn w1 w2 g vs.length B3 ul ue v' (shc vs) u) :
    Sq n₀ B2 B3 T f ul ue v' (K ++ [q]) (vs ++ [u]) (fun k => V k ∨ Vn k) w2 ∧ Ch (fun j => j = B3 ∨ vk.ownBlock = some j) w w2 := by
  have lt2 := (Array.getElem?_eq_some_iff.1 h.b2).1
  have lt3 := (Array.getElem?_eq_some_iff.1 h.b3).1
  have cc : Ch (fun j => j = B3 ∨ vk.ownBlock = some j) w w2 := (c1.mono (fun j _ e => .inr e)).trans sn.ch (fun j hj e => by
    rcases e with rfl | e
    · rcases gg with e | e
      · exact .inr e
      · omega
    · exact .inl e)
  have VO : ∀ k, V k → w2.heap[k]? = w.heap[k]? := fun k hk => cc.block k (h.vc.lt hk) (fun e => by
    rcases e with rfl | e
    · exact h.v2.2 hk
    · exact (h.rV k e).1 hk)
  have VN : ∀ k, Vn k → w2.heap[k]? = w.heap[k]? := fun k hk => cc.block k (vn.lt hk) (fun e => by
    have := (vn k hk).1
    rcases e with rfl | e
    · have := hN _ (.inr (.inl rfl)); omega
    · have := hN _ (.inr (.inr (.inl e))); omega)
  refine ⟨⟨(cc.block B2 lt2 (fun e => by
      rcases e with e | e
      · exact h.ne e
      · exact (h.rV B2 e).2.1 rfl)).trans h.b2, sn.b3, h.ne, h.lo, own_blk h.lv (fun j e => VO j (h.lV j e)), h.hr, fun j e => .inl (h.lV j e), ?_, ?_, ?_, ?_, by simp [h.len], ?_⟩, cc⟩
  · rintro k (hk | hk)
    · exact h.vc.keep VO k hk
    · obtain ⟨a, b⟩ := vn.keep VN k hk
      exact ⟨by omega, b⟩
  · refine ⟨fun e => ?_, fun e => ?_⟩
    · rcases e with e | e
      · exact h.v2.1 e
      · have := (vn _ e).1; have := hN _ (.inl rfl); omega
    · rcases e with e | e
      · exact h.v2.2 e
      · have := (vn _ e).1; have := hN _ (.inr (.inl rfl)); omega
  · have : shc (vs ++ [u]) = shc vs ++ [u.1, u.2.1, .slice none 0 0, u.2.2] := by rw [shc_app]; rfl
    rw [this, List.length_append]
    refine row_base sn.row (fun j e => ?_)
    rw [hg] at e
    cases e
    rcases gg with e | e
    · exact row_ge h.row e
    · have := h.lo.1; omega
  · intro j e
    rw [hg] at e
    cases e
    rcases gg with e | e
    · refine ⟨fun c => ?_, (h.rV _ e).2⟩
      rcases c with c | c
      · exact (h.rV _ e).1 c
      · have := (vn _ c).1; have := hN _ (.inr (.inr (.inl e))); omega
    · refine ⟨fun c => ?_, by omega, by omega⟩
      rcases c with c | c
      · have := h.vc.lt c; omega
      · have := vn.lt c; omega
  · intro i q' v hq hv
    by_cases c : i < K.length
    · rw [List.getElem?_append_left c] at hq
      rw [List.getElem?_append_left (by rw [h.len]; exact c)] at hv
      exact (h.sub i q' v hq hv).keep VO (fun k e => .inl e)
    · rw [List.getElem?_append_right (by omega)] at hq
      rw [List.getElem?_append_right (by rw [h.len]; omega), h.len] at hv
      by_cases e : i - K.length = 0
      · rw [e] at hq hv
        simp at hq hv
        subst hq hv
        exact sh.keep VN (fun k e => .inr e)
      · obtain ⟨j, hj⟩ : ∃ j, i - K.length = j + 1 := ⟨i - K.length - 1, by omega⟩
        rw [hj] at hq
        simp at hq
/-- The shape when all kids have come. -/
theorem Sq.whole (h : Sq n₀ B2 B3 T f ul ue vk K vs V w) (ks : KidsOrd T f K) : ShAt w (fun k => V k ∨ vk.ownBlock = some k) T f (ul, ue, vk) ∧ VC n₀ w (fun k => V k ∨ vk.ownBlock = some k) :=
  ⟨.mk f _ K vs h.lv (fun g e => .inl (h.lV g e)) h.hr ks h.len (own0 h.row) (fun g e => .inr e) (fun i q v a b => (h.sub i q v a b).keep (fun _ _ => rfl) (fun g e => .inl e)),
   fun k hk => h.cells (hk.elim (fun e => .inr (.inr (.inr e))) (fun e => .inr (.inr (.inl e))))⟩
theorem sq_append {ka : Option Addr} {kc N : Nat} (h : Sq n₀ B2 B3 T f ul ue (.slice ka vs.length kc) K vs V w) (hz : w.heap[N]? = some (.cells #[.slice none 0 0, .bool false, .slice none 0 0, .slice none 0 0] 49 (0, 0))) (hk : vs.length ≤ 900000) :
    ∃ g c w1, (Builtin.append_ #[47, 47] 47 #[.slice ka vs.length kc, .slice (some ⟨N, 0, none⟩) 1 1]).run Tryz.prog w = .ok (.slice (some ⟨g, 0, none⟩) (vs.length + 1) c) w1 ∧ w1.ownsRow 0 49 4 (.slice (some ⟨g, 0, none⟩) (vs.length + 1) c) (vs.length + 1) (shc vs ++ [.slice none 0 0, .bool false, .slice none 0 0, .slice none 0 0]) ∧ Ch (fun j => (Value.slice ka vs.length kc).ownBlock = some j) w w1 ∧ ((Value.slice ka vs.length kc).ownBlock = some g ∨ w.heap.size ≤ g) := by
  obtain ⟨i0, hi0, hzz⟩ := Option.map_eq_some_iff.1 info49
  simp only [Prod.mk.injEq] at hzz
  obtain ⟨v', w', hr, h2, h3, h4, h5⟩ := run_append_own_at (P := Tryz.prog) w 0 47 47 49 i0 _ 4 80 Tryz.underlying47 hi0 hzz.1 hzz.2.1 hzz.2.2 (by rfl) (by decide) _ vs.length (shc vs) (own0 h.row) ⟨N, 0, none⟩ 1 1 [.slice none 0 0, .bool false, .slice none 0 0, .slice none 0 0] (by rfl) (fun j u hu => by
    rw [addr_at]
    exact box_cells hz j u (by simpa using hu)) (by intro u hu; simp at hu; rcases hu with rfl | rfl | rfl | rfl <;> rfl) (by unfold maxLen; omega) (by omega) (by omega)
  rcases h2.2 with ⟨_, q⟩ | ⟨g', cap', cur, rfl, _⟩
  · omega
  · refine ⟨g', cap', w', hr, h2, (ch_grown h3).mono (fun j _ q => q), ?_⟩
    rcases h5 with q | q
    · exact .inl (by rw [← q]; rfl)
    · simp [Value.ownBlock] at q
      exact .inr (by omega)
theorem ShAt.form {u : V3} (h : ShAt w V T f u) : ∃ a n c b a'' n'' c'', u = (.slice a n c, .bool b, .slice a'' n'' c'') := by
  cases h with
  | mk _ _ K vs lv lV hr ks len kd kV sub =>
    obtain ⟨a, c, e⟩ := own_sl lv
    obtain ⟨a'', c'', e''⟩ := own_sl kd
    obtain ⟨u1, u2, u3⟩ := u
    simp only at e hr e''
    subst e hr e''
    exact ⟨_, _, _, _, _, _, _, rfl⟩
set_option maxRecDepth 100000 in
theorem step_st4 {ops : Array Oper} {o : Oper} {a : Act} {w : World} {K : Act → World → Prop} {Q : Exit → Act → World → Prop} {E : Prop} (hg : o.guard = none) (x y : Operand) (hop : o.op = Op.store 49 x y) {g k n1 c1 n3 c3 : Nat} {b2 : Bool} {a1 a3 : Option Addr} {z0 z1 z2 z3 : Value}
    (hx : a.eval x = .pointer (some ⟨g, k, none⟩)) (hy : a.eval y = .agg #[.slice a1 n1 c1, .bool b2, .slice none 0 0, .slice a3 n3 c3]) (e0 : w.cell? ⟨g, k, none⟩ = some z0) (e1 : w.cell? ⟨g, k + 1, none⟩ = some z1) (e2 : w.cell? ⟨g, k + 2, none⟩ = some z2) (e3 : w.cell? ⟨g, k + 3, none⟩ = some z3)
    (f0 : w.frozen? ⟨g, k, none⟩ = false) (f1 : w.frozen? ⟨g, k + 1, none⟩ = false) (f2 : w.frozen? ⟨g, k + 2, none⟩ = false) (f3 : w.frozen? ⟨g, k + 3, none⟩ = false)
    (hK : K (a.put o.dst undef) ((((w.setCell ⟨g, k, none⟩ (.slice a1 n1 c1)).setCell ⟨g, k + 1, none⟩ (.bool b2)).setCell ⟨g, k + 2, none⟩ (.slice none 0 0)).setCell ⟨g, k + 3, none⟩ (.slice a3 n3 c3))) : if Region.wanted o (yielded ops a.tmps) = true then Oper.wp Tryz.prog o a w K Q else E := by
  have hw : Region.wanted o (yielded ops a.tmps) = true := by simp [Region.wanted, hg]
  rw [if_pos hw]
  unfold Oper.wp
  have hr : (execOp a.eval o).run Tryz.prog w = .ok .skip ((((w.setCell ⟨g, k, none⟩ (.slice a1 n1 c1)).setCell ⟨g, k + 1, none⟩ (.bool b2)).setCell ⟨g, k + 2, none⟩ (.slice none 0 0)).setCell ⟨g, k + 3, none⟩ (.slice a3 n3 c3)) := by
    simp only [execOp, hop, hx, hy]
    go_simp
  rw [hr]
  exact hK
end Go.Proofs.YtipagdhoeocjeaaGreat.Li
