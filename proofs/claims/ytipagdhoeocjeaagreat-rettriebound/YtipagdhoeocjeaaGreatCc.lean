import Derived.Test.YtipagdhoeocjeaaGreatProg
import Derived.DeepKeys4
import Derived.WalkKit
import Derived.WalkSpells
import Derived.WalkLawsBesides
import Derived.Lib.Strings
import Derived.Deep.QuietTactic
import Derived.BigQuiet
import Derived.Deep.RegionWith
import Derived.Laws.Rows
import Derived.Laws.ResultCell
import Derived.Deep.LoopGhost
import Derived.Deep.RegionHeldLaw
import Derived.Deep.RegionLaw
import Derived.RegionCalls
import Derived.Lib.AppendZeros
import Derived.Maps.AppendAt
import Derived.Laws.OwnMore
import Derived.Laws.RangeAny
import Derived.Laws.AppendOwn
import Derived.OwnWalk
namespace Go.Proofs.YtipagdhoeocjeaaGreat.Li
open Go Go.RowKit
set_option linter.unusedSimpArgs false
set_option linter.unusedVariables false
structure Ch (S : Nat → Prop) (w w' : World) : Prop where
  os : w'.os = w.os
  tape : w'.tape = w.tape
  output : w'.output = w.output
  size : w.heap.size ≤ w'.heap.size
  block : ∀ k, k < w.heap.size → ¬ S k → w'.heap[k]? = w.heap[k]?
theorem Ch.refl (S : Nat → Prop) (w : World) : Ch S w w := ⟨rfl, rfl, rfl, Nat.le_refl _, fun _ _ _ => rfl⟩
theorem Ch.trans {S S' : Nat → Prop} {a b c : World} (h : Ch S a b) (k : Ch S' b c) (hs : ∀ j, j < a.heap.size → S' j → S j) : Ch S a c :=
  ⟨k.os.trans h.os, k.tape.trans h.tape, k.output.trans h.output, Nat.le_trans h.size k.size, fun j hj hn => (k.block j (by have := h.size; omega) (fun q => hn (hs j hj q))).trans (h.block j hj hn)⟩
theorem Ch.mono {S S' : Nat → Prop} {a b : World} (h : Ch S a b) (hs : ∀ j, j < a.heap.size → S j → S' j) : Ch S' a b := (Ch.refl S' a).trans h hs
theorem Below.ch {S : Nat → Prop} {a b : World} (h : Below a.heap.size a b) : Ch S a b := ⟨h.os, h.tape, h.output, h.size, fun k hk _ => h.block k hk⟩
theorem ch_set {w : World} (hb i : Nat) (v : Value) : Ch (fun k => k = hb) w (w.setCell ⟨hb, i, none⟩ v) := ⟨rfl, rfl, rfl, by simp [World.setCell], fun k hk hn => Below.heap_setCell _ _ _ _ hn⟩
theorem ch_grown {w w' : World} {r : Option Nat} (h : w.grownBy w' r) : Ch (fun k => r = some k) w w' := ⟨h.os, h.tape, h.output, h.size, fun k hk hn => h.block k hk (fun e => hn e.symm)⟩
theorem ch_alloc (S : Nat → Prop) (w : World) (o : Obj) : Ch S w (w.alloc o) := (ch_grown (World.grownBy_alloc w o none)).mono (fun j hj q => by cases q)
theorem box_cells {w : World} {g t : Nat} {cs : Array Value} {fz : Nat × Nat} (h : w.heap[g]? = some (.cells cs t fz)) (k : Nat) (v : Value) (hk : cs[k]? = some v) : w.cell? ⟨g, k, none⟩ = some v := by
  simp [World.cell?, h, hk]
theorem box_frozen {w : World} {g t : Nat} {cs : Array Value} (h : w.heap[g]? = some (.cells cs t (0, 0))) (k : Nat) : w.frozen? ⟨g, k, none⟩ = false := by
  simp [World.frozen?, h]
theorem heap_set {w : World} {g t k : Nat} {cs : Array Value} {fz : Nat × Nat} (h : w.heap[g]? = some (.cells cs t fz)) (v : Value) : (w.setCell ⟨g, k, none⟩ v).heap[g]? = some (.cells (cs.setIfInBounds k v) t fz) := by
  simp [World.setCell, Array.getElem?_modify, h]
theorem heap_set_ne {w : World} {g j k : Nat} (v : Value) (hn : j ≠ g) : (w.setCell ⟨g, k, none⟩ v).heap[j]? = w.heap[j]? := Below.heap_setCell _ _ _ _ hn
theorem ch_drew (S : Nat → Prop) (w : World) : Ch S w w.drew := Below.ch (Below.drew (Below.refl _ _))
theorem Ch.then {S : Nat → Prop} {a b c : World} (h : Ch S a b) (k : Ch S b c) : Ch S a c := h.trans k (fun _ _ q => q)
theorem ch_turned {w w' : World} {b : Nat} (h : w.mapTurned w' b) : Ch (fun j => j = b) w w' := (ch_grown h.grown).mono (fun j _ q => by simpa using q.symm)
def hv (v : Value) : Option (DataW Value × List MemPlace) := some (.held v, [])

/-! ### Maps of numbers -/

theorem cell_heap {w w' : World} {a : Addr} (h : w'.heap[a.block]? = w.heap[a.block]?) : w'.cell? a = w.cell? a := by
  unfold World.cell?
  rw [h]

theorem heap_alloc_new (w : World) (o : Obj) : (w.alloc o).heap[w.heap.size]? = some o := by
  show (w.heap.push o)[w.heap.size]? = _
  exact Array.getElem?_push_size
theorem addr_at (g j : Nat) : (⟨g, 0, none⟩ : Addr).add j = ⟨g, j, none⟩ := by unfold Addr.add; split <;> simp_all
theorem app_gen {w : World} {v : Value} {n s bytes : Nat} {st e : TypeId} {xs : List Value} {cs : Array Value} {z : Value} (hu : Tryz.prog.underlying st = some (.slice e)) (hi : (Tryz.prog.info? e).map (fun i => (i.zero, i.size, i.bytes)) = some (some z, s, bytes)) (hz : z.cells.size = s) (hs : 0 < s) (hb : bytes ≤ 400)
    (ho : w.ownsRow 0 e s v n xs) (hc : cs.size = s) (h1 : ∀ u ∈ cs.toList, u.oneCell' = true) (hn : n ≤ 1000000) :
    ∃ g' cap' w', (Builtin.append_ #[st, st] st #[v, .slice (some ⟨w.heap.size, 0, none⟩) 1 1]).run Tryz.prog (w.alloc (.cells cs e)) = .ok (.slice (some ⟨g', 0, none⟩) (n + 1) cap') w' ∧ w'.ownsRow 0 e s (.slice (some ⟨g', 0, none⟩) (n + 1) cap') (n + 1) (xs ++ cs.toList) ∧ Ch (fun j => v.ownBlock = some j) w w' ∧ (v.ownBlock = some g' ∨ w.heap.size ≤ g') := by
  obtain ⟨i0, hi0, hzz⟩ := Option.map_eq_some_iff.1 hi
  simp only [Prod.mk.injEq] at hzz
  obtain ⟨v', w', hr, h2, h3, h4, h5⟩ := run_append_own_at (P := Tryz.prog) (w.alloc (.cells cs e)) 0 st st e i0 z s bytes hu hi0 hzz.1 hzz.2.1 hzz.2.2 hz hs v n xs (ho.alloc _) ⟨w.heap.size, 0, none⟩ 1 1 cs.toList (by simp [hc]) (fun j u hu => by
    rw [addr_at]
    exact box_cells (heap_alloc_new w _) j u (by simpa using hu)) h1 (by unfold maxLen; omega) (Nat.le_trans (Nat.mul_le_mul (show n + 1 ≤ 1000001 by omega) hb) (by omega)) (by omega)
  rcases h2.2 with ⟨_, q⟩ | ⟨g', cap', cur, rfl, _⟩
  · omega
  · refine ⟨g', cap', w', hr, h2, ?_, ?_⟩
    · exact (ch_alloc _ _ _).then ((ch_grown h3).mono (fun j _ q => q))
    · rcases h5 with q | q
      · exact .inl (by rw [← q]; rfl)
      · simp [Value.ownBlock] at q
        exact .inr (by omega)
theorem step_app {P : Program} {ops : Array Oper} {o : Oper} {a : Act} {w : World} {K : Act → World → Prop} {Q : Exit → Act → World → Prop} {E : Prop} (hg : o.guard = none) (s x : Operand) (t tx : TypeId)
    (hop : o.op = Op.call { callee := Callee.builtin Builtin.append, args := #[s, x], argTypes := #[t, tx] }) (vs vx : Value) (hs : a.eval s = vs) (hx : a.eval x = vx) (v : Value) (w' : World)
    (hrun : (Builtin.append_ #[t, tx] o.type #[vs, vx]).run P w = .ok v w') (hK : K (a.put o.dst v) w') : if Region.wanted o (yielded ops a.tmps) = true then Oper.wp P o a w K Q else E := by
  have hw : Region.wanted o (yielded ops a.tmps) = true := by simp [Region.wanted, hg]
  rw [if_pos hw]
  unfold Oper.wp
  simp [execOp, hop, resolve, invoke, builtin, hs, hx, hrun, Result.andThen]
  exact hK
theorem own_lt {w : World} {B e s n : Nat} {v : Value} {xs : List Value} (h : w.ownsRow B e s v n xs) {g : Nat} (hg : v.ownBlock = some g) : ∃ cur, w.heap[g]? = some (.cells cur e (0, 0)) := by
  rcases h.2 with ⟨rfl, _⟩ | ⟨g', cap, cur, rfl, _, h2, _⟩
  · simp [Value.ownBlock] at hg
  · simp [Value.ownBlock] at hg
    subst hg
    exact ⟨cur, h2⟩
theorem own_ch {w w' : World} {S : Nat → Prop} {B e s n : Nat} {v : Value} {xs : List Value} (h : w.ownsRow B e s v n xs) (hc : Ch S w w') (hs : ∀ g, v.ownBlock = some g → ¬ S g) : w'.ownsRow B e s v n xs := by
  refine ⟨h.1, ?_⟩
  rcases h.2 with h0 | ⟨g, cap, cur, rfl, h1, h2, h3⟩
  · exact .inl h0
  · exact .inr ⟨g, cap, cur, rfl, h1, (hc.block g (Array.getElem?_eq_some_iff.1 h2).1 (hs g rfl)).trans h2, h3⟩

theorem own0 {w : World} {B e s n : Nat} {v : Value} {xs : List Value} (h : w.ownsRow B e s v n xs) : w.ownsRow 0 e s v n xs := by
  refine ⟨h.1, ?_⟩
  rcases h.2 with q | ⟨g, cap, cur, q, q1, q2⟩
  · exact .inl q
  · exact .inr ⟨g, cap, cur, q, Nat.zero_le _, q2⟩

theorem hidi {p : Prop} (h : p) : Hid p := h
/-! ### SortedFunc of a map's values -/

theorem info_parts {P : Program} {t s b : Nat} {z : Value} (h : (P.info? t).map (fun i => (i.zero, i.size, i.bytes)) = some (some z, s, b)) : ∃ i, P.info? t = some i ∧ i.zero = some z ∧ i.size = s ∧ i.bytes = b := by
  obtain ⟨i, hi, hz⟩ := Option.map_eq_some_iff.1 h
  simp only [Prod.mk.injEq] at hz
  exact ⟨i, hi, hz.1, hz.2.1, hz.2.2⟩

theorem row_ge {w : World} {B e s n : Nat} {v : Value} {xs : List Value} (h : w.ownsRow B e s v n xs) {g : Nat} (hg : v.ownBlock = some g) : B ≤ g := by
  rcases h.2 with ⟨rfl, _⟩ | ⟨g', cap, cur, rfl, q, _⟩
  · simp [Value.ownBlock] at hg
  · simp [Value.ownBlock] at hg
    omega
theorem row_base {w : World} {B B' e s n : Nat} {v : Value} {xs : List Value} (h : w.ownsRow B e s v n xs) (hb : ∀ g, v.ownBlock = some g → B' ≤ g) : w.ownsRow B' e s v n xs :=
  ⟨h.1, h.2.elim .inl (fun ⟨g, cap, cur, a, b, c⟩ => .inr ⟨g, cap, cur, a, hb g (by rw [a]; rfl), c⟩)⟩
/-! Calls of the window: F stays, and so does what is no window's. -/
end Go.Proofs.YtipagdhoeocjeaaGreat.Li
namespace Go.Proofs.YtipagdhoeocjeaaGreat.Li
open Go Go.RowKit Go.Maps
set_option linter.unusedSimpArgs false
set_option linter.unusedVariables false
def okT (k : ByteArray) : Prop := k.size ≤ maxLen
def kt (k : ByteArray) : Lit := .string k.data.toList
theorem law9 : Maps.Keyed Tryz.prog 9 := Maps.string_keyed Tryz.underlying9
theorem keyOf_kt {k : ByteArray} (h : okT k) : keyOf Tryz.prog 9 (.string k) = some (kt k) := Go.WideMaps.keyOf_string_mk Tryz.underlying9 h
theorem kt_inj {a b : ByteArray} (ha : okT a) (hb : okT b) (h : kt a = kt b) : a = b := by
  have h1 := keyOf_kt ha
  rw [h] at h1
  have := law9.inj h1 (keyOf_kt hb)
  simp at this
  exact this
def setG (f : ByteArray → Option Value) (k : ByteArray) (v : Option Value) : ByteArray → Option Value := fun j => if j = k then v else f j
def szG (f : ByteArray → Option Value) (k : ByteArray) (n : Nat) : Nat := if (f k).isSome then n else n + 1
def MG (w : World) (mv : Value) (n : Nat) (f : ByteArray → Option Value) : Prop :=
  (mv = .map none ∧ n = 0 ∧ ∀ k, okT k → f k = none) ∨ ∃ mb D, mv = .map (some mb) ∧ w.ownsMap Tryz.prog 9 hv mb n D ∧ Maps.size D = n ∧ ∀ k, okT k → Maps.has D (kt k) = (f k).isSome ∧ ∀ v, f k = some v → ∀ z, D.atKey (kt k) z = .held v
theorem MG.keep {w w' : World} {mv : Value} {n : Nat} {f : ByteArray → Option Value} (h : MG w mv n f) (hs : ∀ b, mv = .map (some b) → w'.heap[b]? = w.heap[b]?) : MG w' mv n f := by
  rcases h with h | ⟨mb, D, h1, ⟨es, clock, hb, F, hs', hD⟩, h3, h4⟩
  · exact .inl h
  · exact .inr ⟨mb, D, h1, ⟨es, clock, (hs mb h1).trans hb, F, hs', hD⟩, h3, h4⟩
theorem MG.block {w : World} {mv : Value} {n : Nat} {f : ByteArray → Option Value} (h : MG w mv n f) {b : Nat} (hb : mv = .map (some b)) : ∃ es clock, w.heap[b]? = some (.map es clock) := by
  rcases h with ⟨h, _⟩ | ⟨mb, D, h1, ⟨es, clock, hm, _⟩, _⟩
  · rw [h] at hb; cases hb
  · rw [h1] at hb
    cases hb
    exact ⟨es, clock, hm⟩
theorem MG.lt {w : World} {mv : Value} {n : Nat} {f : ByteArray → Option Value} (h : MG w mv n f) {b : Nat} (hb : mv = .map (some b)) : b < w.heap.size := by
  obtain ⟨es, c, h⟩ := h.block hb
  exact (Array.getElem?_eq_some_iff.1 h).1
theorem MG.mk {w : World} {mv : Value} {n : Nat} {f : ByteArray → Option Value} (h : MG w mv n f) : mv = .map none ∨ ∃ mb, mv = .map (some mb) := by
  rcases h with ⟨h, _⟩ | ⟨mb, D, h1, _⟩
  · exact .inl h
  · exact .inr ⟨mb, h1⟩
theorem MG.made (w : World) : MG (w.alloc (.map #[] 0)) (.map (some w.heap.size)) 0 (fun _ => none) :=
  .inr ⟨w.heap.size, .map [], rfl, World.ownsMap_made w Tryz.prog 9 hv, rfl, fun k _ => ⟨rfl, fun v q => by cases q⟩⟩
theorem MG.nil (w : World) : MG w (.map none) 0 (fun _ => none) := .inl ⟨rfl, rfl, fun _ _ => rfl⟩
theorem MG.congr {w : World} {mv : Value} {n : Nat} {f g : ByteArray → Option Value} (h : MG w mv n f) (hg : ∀ k, okT k → g k = f k) : MG w mv n g := by
  rcases h with ⟨h, h1, h2⟩ | ⟨mb, D, h1, h2, h3, h4⟩
  · exact .inl ⟨h, h1, fun k hk => (hg k hk).trans (h2 k hk)⟩
  · exact .inr ⟨mb, D, h1, h2, h3, fun k hk => by rw [hg k hk]; exact h4 k hk⟩
theorem MG.look {w : World} {mv : Value} {n : Nat} {f : ByteArray → Option Value} (h : MG w mv n f) {t e : TypeId} (ht : Tryz.prog.underlying t = some (.map 9 e)) {z : Value} (hz : ∀ w, (zeroValue e).run Tryz.prog w = .ok z w) {k : ByteArray} (hk : okT k) :
    (Instr.lookup t mv (.string k) false).run Tryz.prog w = .ok ((f k).getD z) w := by
  rcases h with ⟨rfl, h1, h2⟩ | ⟨mb, D, rfl, h2, h3, h4⟩
  · rw [h2 k hk]
    exact Maps.look_nil false law9 ht (hz w) (keyOf_kt hk)
  · obtain ⟨v, ps, hrun, hv'⟩ := h2.lookup law9 ht (hz w) (zd := .held z) (zp := []) rfl (keyOf_kt hk)
    rw [hrun]
    cases e : f k with
    | none =>
      rw [Maps.atKey_of_not_has (by rw [(h4 k hk).1, e]; rfl)] at hv'
      simp [hv] at hv'
      rw [hv'.1]
      rfl
    | some x =>
      rw [(h4 k hk).2 x e] at hv'
      simp [hv] at hv'
      rw [hv'.1]
      rfl
theorem MG.look2 {w : World} {mv : Value} {n : Nat} {f : ByteArray → Option Value} (h : MG w mv n f) {t e : TypeId} (ht : Tryz.prog.underlying t = some (.map 9 e)) {z : Value} (hz : ∀ w, (zeroValue e).run Tryz.prog w = .ok z w) {k : ByteArray} (hk : okT k) :
    (Instr.lookup t mv (.string k) true).run Tryz.prog w = .ok (.tuple #[(f k).getD z, .bool (f k).isSome]) w := by
  rcases h with ⟨rfl, h1, h2⟩ | ⟨mb, D, rfl, h2, h3, h4⟩
  · rw [h2 k hk]
    exact Maps.look_nil true law9 ht (hz w) (keyOf_kt hk)
  · obtain ⟨v, ps, hrun, hv'⟩ := h2.look_ok law9 ht (hz w) (zd := .held z) (zp := []) rfl (keyOf_kt hk)
    rw [hrun, (h4 k hk).1]
    cases e : f k with
    | none =>
      rw [Maps.atKey_of_not_has (by rw [(h4 k hk).1, e]; rfl)] at hv'
      simp [hv] at hv'
      rw [hv'.1]
      rfl
    | some x =>
      rw [(h4 k hk).2 x e] at hv'
      simp [hv] at hv'
      rw [hv'.1]
      rfl
theorem MG.len {w : World} {mv : Value} {n : Nat} {f : ByteArray → Option Value} (h : MG w mv n f) {t e : TypeId} (ht : Tryz.prog.underlying t = some (.map 9 e)) (ty : TypeId) : (Builtin.len_ #[t] ty #[mv]).run Tryz.prog w = .ok (.int .i64 n) w := by
  rcases h with ⟨rfl, rfl, h2⟩ | ⟨mb, D, rfl, h2, h3, h4⟩
  · exact Maps.len_nil ht ty
  · rw [h2.len ht ty, h3]
theorem MG.put {w : World} {mb : Nat} {n : Nat} {f : ByteArray → Option Value} (h : MG w (.map (some mb)) n f) {t e : TypeId} (ht : Tryz.prog.underlying t = some (.map 9 e)) {k : ByteArray} (hk : okT k) (v : Value) (hn : n < maxLen) :
    ∃ w', (Instr.mapUpdate t (.map (some mb)) (.string k) v).run Tryz.prog w = .ok () w' ∧ MG w' (.map (some mb)) (szG f k n) (setG f k (some v)) ∧ Ch (fun j => j = mb) w w' := by
  rcases h with ⟨h, _⟩ | ⟨mb', D, h1, h2, h3, h4⟩
  · cases h
  · cases h1
    obtain ⟨w', hrun, ho, htd⟩ := h2.store law9 ht hn (keyOf_kt hk) (val := v) (d := .held v) (ps := []) rfl
    have hD := h2.tidy law9
    have hsz : Maps.size (D.put (kt k) (.held v)) = szG f k n := by
      rw [Maps.size_put hD, h3, (h4 k hk).1]
      rfl
    refine ⟨w', hrun, .inr ⟨mb, D.put (kt k) (.held v), rfl, ?_, hsz, fun k' hk' => ?_⟩, ch_turned htd⟩
    · obtain ⟨es, clock, hb, F, hs, hd⟩ := ho
      refine ⟨es, clock, hb, F, ?_, hd⟩
      rw [← hsz, hd]
      simp [Maps.size, length_sorted]
    · by_cases q : k' = k
      · subst q
        refine ⟨by rw [Maps.has_put_same hD.isMap (law9.key (keyOf_kt hk))]; simp [setG], fun x hx z => ?_⟩
        simp [setG] at hx
        rw [Maps.atKey_put_same hD.isMap (law9.key (keyOf_kt hk)), hx]
      · have hne : kt k' ≠ kt k := fun r => q (kt_inj hk' hk r)
        rw [Maps.has_put_other hne]
        refine ⟨by rw [(h4 k' hk').1]; simp [setG, q], fun x hx z => ?_⟩
        simp [setG, q] at hx
        rw [Maps.atKey_put_other hne, (h4 k' hk').2 x hx]
theorem MG.del {w : World} {mb : Nat} {n : Nat} {f : ByteArray → Option Value} (h : MG w (.map (some mb)) n f) {t e : TypeId} (ht : Tryz.prog.underlying t = some (.map 9 e)) {k : ByteArray} (hk : okT k) (ty : TypeId) :
    ∃ w', (Builtin.delete_ #[t, 9] ty #[.map (some mb), .string k]).run Tryz.prog w = .ok (.tuple #[]) w' ∧ MG w' (.map (some mb)) (n - (if (f k).isSome then 1 else 0)) (setG f k none) ∧ Ch (fun j => j = mb) w w' := by
  rcases h with ⟨h, _⟩ | ⟨mb', D, h1, h2, h3, h4⟩
  · cases h
  · cases h1
    obtain ⟨w', hrun, ho, htd⟩ := h2.drop law9 ht (keyOf_kt hk) ty
    have hD := h2.tidy law9
    have hsz : Maps.size (D.del (kt k)) = n - (if (f k).isSome then 1 else 0) := by
      have := Maps.size_del (k := kt k) hD
      rw [(h4 k hk).1, h3] at this
      omega
    refine ⟨w', hrun, .inr ⟨mb, D.del (kt k), rfl, ?_, hsz, fun k' hk' => ?_⟩, ch_turned htd⟩
    · obtain ⟨es, clock, hb, F, hs, hd⟩ := ho
      refine ⟨es, clock, hb, F, ?_, hd⟩
      rw [← hsz, hd]
      simp [Maps.size, length_sorted]
    · by_cases q : k' = k
      · subst q
        refine ⟨by rw [Maps.has_del_same]; simp [setG], fun x hx z => ?_⟩
        simp [setG] at hx
      · have hne : kt k' ≠ kt k := fun r => q (kt_inj hk' hk r)
        rw [Maps.has_del_other hne]
        refine ⟨by rw [(h4 k' hk').1]; simp [setG, q], fun x hx z => ?_⟩
        simp [setG, q] at hx
        rw [Maps.atKey_del_other hne, (h4 k' hk').2 x hx]
end Go.Proofs.YtipagdhoeocjeaaGreat.Li
namespace Go.Proofs.YtipagdhoeocjeaaGreat

/-- The byte at a place; 0 behind the end. -/
def atB (s : ByteArray) (i : Nat) : Nat := (s.get! i).toNat

theorem atB_lt (s : ByteArray) (i : Nat) : atB s i < 256 := (s.get! i).toNat_lt

theorem atB_in (s : ByteArray) (i : Nat) (h : i < s.size) : atB s i = (s[i]'h).toNat := by
  unfold atB; rw [← get_at s i h]; rfl

theorem atB_out (s : ByteArray) (i : Nat) (h : ¬ i < s.size) : atB s i = 0 := by
  unfold atB
  have : s.get! i = 0 := by
    simp only [ByteArray.get!]
    rw [getElem!_neg]
    · rfl
    · simpa using h
  rw [this]; rfl

theorem lt_of_atB (s : ByteArray) (i : Nat) (h : atB s i ≠ 0) : i < s.size := by
  apply Classical.byContradiction
  intro hn
  exact h (atB_out s i hn)

/-- How many bytes the code point takes whose first bytes these are; 0: none. -/
def pt (c d e f : Nat) : Nat :=
  if c ≤ 0x7F then 1
  else if (0xC2 ≤ c ∧ c ≤ 0xDF) ∧ (0x80 ≤ d ∧ d ≤ 0xBF) then 2
  else if (c = 0xE0 ∧ (0xA0 ≤ d ∧ d ≤ 0xBF) ∧ (0x80 ≤ e ∧ e ≤ 0xBF)) ∨ ((0xE1 ≤ c ∧ c ≤ 0xEC) ∧ (0x80 ≤ d ∧ d ≤ 0xBF) ∧ (0x80 ≤ e ∧ e ≤ 0xBF)) ∨ (c = 0xED ∧ (0x80 ≤ d ∧ d ≤ 0x9F) ∧ (0x80 ≤ e ∧ e ≤ 0xBF)) ∨ ((0xEE ≤ c ∧ c ≤ 0xEF) ∧ (0x80 ≤ d ∧ d ≤ 0xBF) ∧ (0x80 ≤ e ∧ e ≤ 0xBF)) then 3
  else if (c = 0xF0 ∧ (0x90 ≤ d ∧ d ≤ 0xBF) ∧ (0x80 ≤ e ∧ e ≤ 0xBF) ∧ (0x80 ≤ f ∧ f ≤ 0xBF)) ∨ ((0xF1 ≤ c ∧ c ≤ 0xF3) ∧ (0x80 ≤ d ∧ d ≤ 0xBF) ∧ (0x80 ≤ e ∧ e ≤ 0xBF) ∧ (0x80 ≤ f ∧ f ≤ 0xBF)) ∨ (c = 0xF4 ∧ (0x80 ≤ d ∧ d ≤ 0x8F) ∧ (0x80 ≤ e ∧ e ≤ 0xBF) ∧ (0x80 ≤ f ∧ f ≤ 0xBF)) then 4
  else 0

/-- Decoding by four bytes alone. -/
def dec (c d e f : Nat) : Nat × Nat :=
  if c < 0x80 then (c, 1)
  else if c / 32 = 6 ∧ d / 64 = 2 then
    if 0x80 ≤ (c % 32) * 64 + d % 64 then ((c % 32) * 64 + d % 64, 2) else (0xFFFD, 1)
  else if c / 16 = 14 ∧ d / 64 = 2 ∧ e / 64 = 2 then
    if 0x800 ≤ (c % 16) * 4096 + (d % 64) * 64 + e % 64 ∧ ((c % 16) * 4096 + (d % 64) * 64 + e % 64 < 0xD800 ∨ 0xE000 ≤ (c % 16) * 4096 + (d % 64) * 64 + e % 64) then ((c % 16) * 4096 + (d % 64) * 64 + e % 64, 3) else (0xFFFD, 1)
  else if c / 8 = 30 ∧ d / 64 = 2 ∧ e / 64 = 2 ∧ f / 64 = 2 then
    if 0x10000 ≤ (c % 8) * 262144 + (d % 64) * 4096 + (e % 64) * 64 + f % 64 ∧ (c % 8) * 262144 + (d % 64) * 4096 + (e % 64) * 64 + f % 64 ≤ 0x10FFFF then ((c % 8) * 262144 + (d % 64) * 4096 + (e % 64) * 64 + f % 64, 4) else (0xFFFD, 1)
  else (0xFFFD, 1)

theorem cont_iff (s : ByteArray) (i k : Nat) : (decide (i + k < s.size) && (s.get! (i + k)).toNat / 64 == 2) = decide (atB s (i + k) / 64 = 2) := by
  rw [Bool.eq_iff_iff]
  simp only [Bool.and_eq_true, decide_eq_true_eq, beq_iff_eq]
  constructor
  · exact fun h => h.2
  · intro h
    exact ⟨lt_of_atB s _ (by omega), h⟩

set_option maxRecDepth 100000 in
theorem decode_dec (s : ByteArray) (i : Nat) : Utf8.decode s i = dec (atB s i) (atB s (i + 1)) (atB s (i + 2)) (atB s (i + 3)) := by
  simp only [Utf8.decode, cont_iff]
  simp only [show ∀ j, (s.get! j).toNat = atB s j from fun _ => rfl, Nat.add_zero]
  have h0 := atB_lt s i
  have h1 := atB_lt s (i + 1)
  have h2 := atB_lt s (i + 2)
  have h3 := atB_lt s (i + 3)
  generalize atB s i = c at *
  generalize atB s (i + 1) = d at *
  generalize atB s (i + 2) = e at *
  generalize atB s (i + 3) = f at *
  unfold dec
  by_cases k1 : c < 0x80
  · simp [k1]
  rw [if_neg k1, if_neg k1]
  by_cases k2 : c / 32 = 6 ∧ d / 64 = 2
  · rw [if_pos (by simpa using k2), if_pos k2]; rfl
  rw [if_neg (by simpa using k2), if_neg k2]
  by_cases k3 : c / 16 = 14 ∧ d / 64 = 2 ∧ e / 64 = 2
  · rw [if_pos (by simpa [and_assoc] using k3), if_pos k3]
    obtain ⟨v, hv⟩ : ∃ v, c % 16 * 4096 + d % 64 * 64 + e % 64 = v := ⟨_, rfl⟩
    have hv' : v < 65536 := by omega
    rw [hv]
    by_cases kk : 0x800 ≤ v ∧ (v < 0xD800 ∨ 0xE000 ≤ v)
    · rw [if_pos kk, if_pos]
      simp only [Utf8.valid, Bool.and_eq_true, Bool.or_eq_true, decide_eq_true_eq]; omega
    · rw [if_neg kk, if_neg]
      · rfl
      · simp only [Utf8.valid, Bool.and_eq_true, Bool.or_eq_true, decide_eq_true_eq]; omega
  rw [if_neg (by simpa [and_assoc] using k3), if_neg k3]
  by_cases k4 : c / 8 = 30 ∧ d / 64 = 2 ∧ e / 64 = 2 ∧ f / 64 = 2
  · rw [if_pos (by simpa [and_assoc] using k4), if_pos k4]
    obtain ⟨v, hv⟩ : ∃ v, c % 8 * 262144 + d % 64 * 4096 + e % 64 * 64 + f % 64 = v := ⟨_, rfl⟩
    rw [hv]
    by_cases kk : 0x10000 ≤ v ∧ v ≤ 0x10FFFF
    · rw [if_pos kk, if_pos]
      simp only [Utf8.valid, Bool.and_eq_true, Bool.or_eq_true, decide_eq_true_eq]; omega
    · rw [if_neg kk, if_neg]
      · rfl
      · simp only [Utf8.valid, Bool.and_eq_true, Bool.or_eq_true, decide_eq_true_eq]; omega
  rw [if_neg (by simpa [and_assoc] using k4), if_neg k4]
  rfl

/-- What decoding tells, held against how many bytes the code point takes. -/
def Fits (n c d e : Nat) (x : Nat × Nat) : Prop :=
  (n = 0 → x.1 = 0xFFFD ∧ x.2 = 1 ∧ c ≠ 0 ∧ ¬ (c = 0xEF ∧ d = 0xBF ∧ e = 0xBD)) ∧
  (n ≠ 0 → x.2 = n ∧ (x.1 = 0 ↔ c = 0) ∧ (x.1 = 0xFFFD → c = 0xEF ∧ d = 0xBF ∧ e = 0xBD))

theorem fits_none {c d e : Nat} (h : c ≠ 0) (h' : ¬ (c = 0xEF ∧ d = 0xBF ∧ e = 0xBD)) : Fits 0 c d e (0xFFFD, 1) :=
  ⟨fun _ => ⟨rfl, rfl, h, h'⟩, fun x => absurd rfl x⟩
theorem fits_some {n c d e v : Nat} (hn : n ≠ 0) (h : v = 0 ↔ c = 0) (h' : v = 0xFFFD → c = 0xEF ∧ d = 0xBF ∧ e = 0xBD) : Fits n c d e (v, n) :=
  ⟨fun x => absurd x hn, fun _ => ⟨rfl, h, h'⟩⟩

theorem dec_pt (c d e f : Nat) (hc : c < 256) (hd : d < 256) (he : e < 256) (hf : f < 256) : Fits (pt c d e f) c d e (dec c d e f) := by
  unfold dec pt
  by_cases k1 : c < 0x80
  · rw [if_pos k1, if_pos (by omega)]
    exact fits_some (by decide) Iff.rfl (by omega)
  rw [if_neg k1, if_neg (by omega)]
  by_cases k2 : c / 32 = 6 ∧ d / 64 = 2
  · rw [if_pos k2]
    by_cases kk : 0x80 ≤ c % 32 * 64 + d % 64
    · rw [if_pos kk, if_pos (by omega)]
      exact fits_some (by decide) (by omega) (by omega)
    · rw [if_neg kk, if_neg (by omega), if_neg (by omega), if_neg (by omega)]
      exact fits_none (by omega) (by omega)
  rw [if_neg k2, if_neg (show ¬ ((0xC2 ≤ c ∧ c ≤ 0xDF) ∧ (0x80 ≤ d ∧ d ≤ 0xBF)) by omega)]
  by_cases k3 : c / 16 = 14 ∧ d / 64 = 2 ∧ e / 64 = 2
  · rw [if_pos k3]
    obtain ⟨x, y, z⟩ := k3
    obtain ⟨c, rfl⟩ : ∃ q, c = 0xE0 + q := ⟨c - 0xE0, by omega⟩
    obtain ⟨d, rfl⟩ : ∃ q, d = 0x80 + q := ⟨d - 0x80, by omega⟩
    obtain ⟨e, rfl⟩ : ∃ q, e = 0x80 + q := ⟨e - 0x80, by omega⟩
    have q1 : (0xE0 + c) % 16 = c := by omega
    have q2 : (0x80 + d) % 64 = d := by omega
    have q3 : (0x80 + e) % 64 = e := by omega
    rw [q1, q2, q3]
    have c1 : c < 16 := by omega
    have d1 : d < 64 := by omega
    have e1 : e < 64 := by omega
    clear x y z q1 q2 q3 k1 k2 hc hd he
    by_cases kk : 0x800 ≤ c * 4096 + d * 64 + e ∧ (c * 4096 + d * 64 + e < 0xD800 ∨ 0xE000 ≤ c * 4096 + d * 64 + e)
    · rw [if_pos kk, if_pos]
      · exact fits_some (by decide) (by omega) (by omega)
      · by_cases a : c = 0
        · left; omega
        by_cases b : c = 13
        · right; right; left; omega
        by_cases b' : c < 13
        · right; left; omega
        · right; right; right; omega
    · rw [if_neg kk, if_neg, if_neg (by omega)]
      · exact fits_none (by omega) (by omega)
      · by_cases a : c = 0
        · omega
        · omega
  rw [if_neg k3, if_neg (by omega)]
  by_cases k4 : c / 8 = 30 ∧ d / 64 = 2 ∧ e / 64 = 2 ∧ f / 64 = 2
  · rw [if_pos k4]
    obtain ⟨x, y, z, u⟩ := k4
    obtain ⟨c, rfl⟩ : ∃ q, c = 0xF0 + q := ⟨c - 0xF0, by omega⟩
    obtain ⟨d, rfl⟩ : ∃ q, d = 0x80 + q := ⟨d - 0x80, by omega⟩
    obtain ⟨e, rfl⟩ : ∃ q, e = 0x80 + q := ⟨e - 0x80, by omega⟩
    obtain ⟨f, rfl⟩ : ∃ q, f = 0x80 + q := ⟨f - 0x80, by omega⟩
    have q1 : (0xF0 + c) % 8 = c := by omega
    have q2 : (0x80 + d) % 64 = d := by omega
    have q3 : (0x80 + e) % 64 = e := by omega
    have q4 : (0x80 + f) % 64 = f := by omega
    rw [q1, q2, q3, q4]
    have c1 : c < 8 := by omega
    have d1 : d < 64 := by omega
    have e1 : e < 64 := by omega
    have f1 : f < 64 := by omega
    clear x y z u q1 q2 q3 q4 k1 k2 k3 hc hd he hf
    by_cases kk : 0x10000 ≤ c * 262144 + d * 4096 + e * 64 + f ∧ c * 262144 + d * 4096 + e * 64 + f ≤ 0x10FFFF
    · rw [if_pos kk, if_pos]
      · exact fits_some (by decide) (by omega) (by omega)
      · by_cases a : c = 0
        · left; omega
        by_cases b' : c < 4
        · right; left; omega
        · right; right; omega
    · rw [if_neg kk, if_neg]
      · exact fits_none (by omega) (by omega)
      · by_cases a : c = 0
        · omega
        · omega
  rw [if_neg k4, if_neg (by omega)]
  exact fits_none (by omega) (by omega)

/-- How many bytes the code point at a place takes; 0: none. -/
def point (s : ByteArray) (i : Nat) : Nat := pt (atB s i) (atB s (i + 1)) (atB s (i + 2)) (atB s (i + 3))

theorem point_fits (s : ByteArray) (i : Nat) : Fits (point s i) (atB s i) (atB s (i + 1)) (atB s (i + 2)) (Utf8.decode s i) := by
  rw [decode_dec]
  exact dec_pt _ _ _ _ (atB_lt _ _) (atB_lt _ _) (atB_lt _ _) (atB_lt _ _)

theorem point_le (s : ByteArray) (i : Nat) (h : i < s.size) : i + point s i ≤ s.size := by
  have a1 := lt_of_atB s (i + 1)
  have a2 := lt_of_atB s (i + 2)
  have a3 := lt_of_atB s (i + 3)
  unfold point pt
  split
  · omega
  split
  · rename_i k; have := a1 (by omega); omega
  split
  · rename_i k; have := a2 (by omega); omega
  split
  · rename_i k; have := a3 (by omega); omega
  · omega

end Go.Proofs.YtipagdhoeocjeaaGreat
namespace Go.Proofs.YtipagdhoeocjeaaGreat
open Go.RowKit
set_option linter.unusedSimpArgs false
set_option linter.unusedVariables false

/-- What Check tells from a place on, in so many steps at most. -/
def chkF (s : ByteArray) : Nat → Nat → Nat × Nat
  | 0, _ => (0, 0)
  | b + 1, k => if k < s.size then (if atB s k = 0 then (k, 14) else if point s k = 0 then (k, 13) else chkF s b (k + point s k)) else (0, 0)
/-- What Check tells. -/
def chk (s : ByteArray) : Nat × Nat := if 65535 < s.size then (65535, 11) else chkF s s.size 0

theorem chkF_end (s : ByteArray) (b k : Nat) (h : ¬ k < s.size) : chkF s b k = (0, 0) := by
  cases b with
  | zero => rfl
  | succ b => simp [chkF, h]
theorem chkF_zero (s : ByteArray) (b k : Nat) (h : k < s.size) (hb : s.size ≤ k + b) (hz : atB s k = 0) : chkF s b k = (k, 14) := by
  cases b with
  | zero => omega
  | succ b => simp [chkF, h, hz]
theorem chkF_utf (s : ByteArray) (b k : Nat) (h : k < s.size) (hb : s.size ≤ k + b) (hz : ¬ atB s k = 0) (hp : point s k = 0) : chkF s b k = (k, 13) := by
  cases b with
  | zero => omega
  | succ b => simp [chkF, h, hz, hp]
theorem chkF_step (s : ByteArray) (b k : Nat) (h : k < s.size) (hb : s.size ≤ k + b) (hz : ¬ atB s k = 0) (hp : ¬ point s k = 0) : ∃ b', chkF s b k = chkF s b' (k + point s k) ∧ s.size ≤ k + point s k + b' := by
  cases b with
  | zero => omega
  | succ b => exact ⟨b, by simp [chkF, h, hz, hp], by omega⟩

/-- Does a text begin with another? -/
def begins (s p : ByteArray) : Bool := decide (p.size ≤ s.size) && ((s.extract 0 p.size).toList == p.toList)

set_option maxHeartbeats 400000 in
theorem pre_any (s p : ByteArray) (w : World) :
    Calls Tryz.prog 58 #[.string s, .string p] w fun e w' => e = .returned (.bool (begins s p)) ∧ w' = w := by
  by_cases h : p.size ≤ s.size
  · have e : begins s p = ((s.extract 0 p.size).toList == p.toList) := by simp [begins, h]
    rw [e]
    clear e
    have h' : (p.size : Int) ≤ s.size := by omega
    go_enter Tryz.func58, Tryz.ntmps58
    go_wp2
    go_ret
    exact ⟨rfl, rfl⟩
  · have e : begins s p = false := by simp [begins, h]
    rw [e]
    clear e
    have h' : ¬ (p.size : Int) ≤ s.size := by omega
    go_enter Tryz.func58, Tryz.ntmps58
    go_wp2
    go_ret
    exact ⟨rfl, rfl⟩

theorem atB_list (s : ByteArray) (i : Nat) : atB s i = (s.data.toList[i]?.getD 0).toNat := by
  by_cases h : i < s.size
  · rw [atB_in s i h]
    have h' : i < s.data.toList.length := by simpa using h
    rw [List.getElem?_eq_getElem h']
    rfl
  · rw [atB_out s i h]
    have h' : s.data.toList.length ≤ i := by simpa using h
    rw [List.getElem?_eq_none h']
    rfl

theorem three (l : List UInt8) : List.isPrefixOf [239, 191, 189] l = decide ((l[0]?.getD 0).toNat = 239 ∧ (l[1]?.getD 0).toNat = 191 ∧ (l[2]?.getD 0).toNat = 189) := by
  have hq : ∀ (a b : UInt8), (a == b) = decide (b.toNat = a.toNat) := by
    intro a b
    rw [Bool.eq_iff_iff]
    simp only [beq_iff_eq, decide_eq_true_eq, UInt8.toNat_inj]
    exact eq_comm
  match l with
  | [] => rfl
  | [a] => simp [List.isPrefixOf]
  | [a, b] => simp [List.isPrefixOf]
  | a :: b :: c :: r =>
    simp only [List.isPrefixOf, hq, Bool.and_true]
    rw [Bool.eq_iff_iff]
    simp

theorem begins_three (s : ByteArray) (k : Nat) : begins (s.extract k s.size) ⟨#[239, 191, 189]⟩ = decide (atB s k = 239 ∧ atB s (k + 1) = 191 ∧ atB s (k + 2) = 189) := by
  unfold begins
  rw [Lib.hasPrefix_raw, Lib.extract_data, List.take_of_length_le (by simp)]
  unfold Lib.hasPrefix
  have e : (ByteArray.mk #[239, 191, 189]).data.toList = [239, 191, 189] := rfl
  rw [e, three]
  simp only [atB_list, List.getElem?_drop, Nat.add_zero]

theorem width_pos (s : ByteArray) (k : Nat) : 1 ≤ (Utf8.decode s k).2 := by
  have h := point_fits s k
  by_cases hp : point s k = 0
  · rw [(h.1 hp).2.1]; exact Nat.le_refl _
  · rw [(h.2 hp).1]; omega

set_option maxRecDepth 1000000 in
set_option maxHeartbeats 400000 in
theorem chk_world (s : ByteArray) (w : World) :
    Calls Tryz.prog 59 #[.string s] w fun e w' => e = .returned (.tuple #[.int .i64 (chk s).1, .int .i64 (chk s).2]) ∧ (w' = w ∨ ∃ k, w' = w.iter s k) := by
  by_cases hl : 65535 < s.size
  · have e : chk s = (65535, 11) := by simp [chk, hl]
    rw [e]
    clear e
    have hl' : (65535 : Int) < s.size := by omega
    go_enter Tryz.func59, Tryz.ntmps59
    go_wp2
    go_ret2
    exact ⟨rfl, .inl rfl⟩
  · have HE : Hid (chk s = chkF s s.size 0) := by simp [chk, hl, Hid]
    have hl' : ¬ (65535 : Int) < s.size := by omega
    have hs : s.size ≤ 65535 := by omega
    go_enter Tryz.func59, Tryz.ntmps59
    go_wp2
    go_loopw [4, 5] (fun i c w' => ∃ k b : Nat, w' = w.iter s k ∧ chk s = chkF s b k ∧ s.size ≤ k + b) (fun _ _ w' => s.size - w'.iterPos w.heap.size)
    case atStart => exact ⟨0, s.size, rfl, HE.out, by omega⟩
    case round =>
      obtain ⟨k, b, rfl, hc, hb⟩ := hrel
      have HC : Hid (chk s = chkF s b k) := hc
      clear hc
      by_cases hlt : k < s.size
      · obtain ⟨r, n, hd⟩ : ∃ r n, Utf8.decode s k = (r, n) := ⟨_, _, rfl⟩
        have hnx : ∀ ty, (Instr.next (.pointer (some ⟨w.heap.size, 0, none⟩)) true ty).run Tryz.prog (w.iter s k) = .ok (.tuple #[.bool true, .int .i64 k, .int .i32 r]) (w.iter s (k + n)) := by
          intro ty
          rw [run_next_any w s k ty hlt, hd]
        have hf := point_fits s k
        rw [hd] at hf
        clear hd
        have hg := begins_three s k
        have HF : Hid (Fits (point s k) (atB s k) (atB s (k + 1)) (atB s (k + 2)) (r, n)) := hf
        have HG : Hid (begins (s.extract k s.size) ⟨#[239, 191, 189]⟩ = decide (atB s k = 239 ∧ atB s (k + 1) = 191 ∧ atB s (k + 2) = 189)) := hg
        clear hf hg
        by_cases hz : atB s k = 0
        · have hp : point s k = 1 := by simp [point, pt, hz]
          have hr : r = 0 := ((HF.out.2 (by omega)).2.1).2 hz
          subst hr
          have HR : Hid (chk s = (k, 14)) := by have h1 := HC.out; rw [chkF_zero s b k hlt hb hz] at h1; exact h1
          clear hz hp
          go_wp2
          go_ret2
          exact ⟨by rw [HR.out]; rfl, .inr ⟨_, rfl⟩⟩
        · by_cases hp : point s k = 0
          · obtain ⟨h1, h2, _, h4⟩ := HF.out.1 hp
            have hr : r = 65533 := h1
            subst hr
            have hg : begins (s.extract k s.size) ⟨#[239, 191, 189]⟩ = false := by rw [HG.out]; exact decide_eq_false h4
            have HR : Hid (chk s = (k, 13)) := by have h1 := HC.out; rw [chkF_utf s b k hlt hb hz hp] at h1; exact h1
            clear hz hp h1 h2 h4
            go_wp2_with (go_at_call 58; refine (pre_any _ _ _).mono ?_; rintro e w' ⟨rfl, rfl⟩)
            go_ret2
            exact ⟨by rw [HR.out]; rfl, .inr ⟨_, rfl⟩⟩
          · obtain ⟨h1, h2, h3⟩ := HF.out.2 hp
            have hn : n = point s k := h1
            have hr0 : ¬ r = 0 := fun h => hz (h2.1 h)
            obtain ⟨b', e1, e2⟩ := chkF_step s b k hlt hb hz hp
            have HS : Hid (chk s = chkF s b' (k + n) ∧ s.size ≤ k + n + b' ∧ 1 ≤ n) := by rw [hn]; exact ⟨HC.out.trans e1, e2, by omega⟩
            by_cases hr : r = 65533
            · have hg : begins (s.extract k s.size) ⟨#[239, 191, 189]⟩ = true := by rw [HG.out]; exact decide_eq_true (h3 hr)
              clear h1 h2 h3 hn hr0 e1 e2 hz hp
              subst hr
              go_wp2_with (go_at_call 58; refine (pre_any _ _ _).mono ?_; rintro e w' ⟨rfl, rfl⟩)
              go_roundw
              case rel => exact ⟨k + n, b', rfl, HS.out.1, HS.out.2.1⟩
              case measure => have := HS.out.2.2; simp; omega
            · have q0 : ((r : Int) == 0) = false := by simp; omega
              have q1 : ((r : Int) == 65533) = false := by simp; omega
              clear h1 h2 h3 hn hr0 e1 e2 hz hp hr
              go_wp2_with (go_at_call 58; refine (pre_any _ _ _).mono ?_; rintro e w' ⟨rfl, rfl⟩)
              go_roundw
              case rel => exact ⟨k + n, b', rfl, HS.out.1, HS.out.2.1⟩
              case measure => have := HS.out.2.2; simp; omega
      · have hnx : ∀ ty, (Instr.next (.pointer (some ⟨w.heap.size, 0, none⟩)) true ty).run Tryz.prog (w.iter s k) = _ := fun ty => run_next_end w s k ty hlt
        have HR : Hid (chk s = (0, 0)) := by have h1 := HC.out; rw [chkF_end s b k hlt] at h1; exact h1
        go_wp2
        go_ret2
        exact ⟨by rw [HR.out]; rfl, .inr ⟨_, rfl⟩⟩

theorem below_iter (w : World) (s : ByteArray) (k : Nat) : Below w.heap.size w (w.iter s k) := (Below.refl _ _).alloc (Nat.le_refl _) _
theorem frozen_iter (w : World) (s : ByteArray) (k : Nat) (a : Addr) : (w.iter s k).frozen? a = w.frozen? a := by
  by_cases h : a.block = w.heap.size
  · have e1 : (w.iter s k).heap[a.block]? = some (.stringIter s k) := by rw [h]; exact World.iter_heap w s k
    have e2 : w.heap[a.block]? = none := by rw [h]; simp
    simp [World.frozen?, e1, e2]
  · by_cases h' : a.block < w.heap.size
    · exact (below_iter w s k).frozen h'
    · have e1 : (w.iter s k).heap[a.block]? = none := by
        show (w.heap.push _)[a.block]? = none
        rw [Array.getElem?_eq_none]
        simp; omega
      have e2 : w.heap[a.block]? = none := by rw [Array.getElem?_eq_none]; omega
      simp [World.frozen?, e1, e2]
theorem grown_iter (w : World) (s : ByteArray) (k : Nat) : Grown w (w.iter s k) :=
  ⟨World.keptBut_alloc _ _ _, frozen_iter w s k, (below_iter w s k).size⟩

theorem chk_any (s : ByteArray) (w : World) :
    Calls Tryz.prog 59 #[.string s] w fun e w' => e = .returned (.tuple #[.int .i64 (chk s).1, .int .i64 (chk s).2]) ∧ Below w.heap.size w w' ∧ Grown w w' := by
  refine (chk_world s w).mono ?_
  rintro e w' ⟨rfl, rfl | ⟨k, rfl⟩⟩
  · exact ⟨rfl, Below.refl _ _, Grown.refl _⟩
  · exact ⟨rfl, below_iter _ _ _, grown_iter _ _ _⟩
end Go.Proofs.YtipagdhoeocjeaaGreat
namespace Go.Proofs.YtipagdhoeocjeaaGreat
open Go Go.RowKit
set_option linter.unusedSimpArgs false
set_option linter.unusedVariables false
/-- Is it a text? -/
def txt (s : ByteArray) : Bool := ((chk s).2 : Int) == 0
theorem isEmpty_size (s : ByteArray) : (!s.toList.isEmpty) = (s.size != 0) := by
  rw [Lib.toList_data]
  obtain ⟨⟨l⟩⟩ := s
  cases l <;> simp [ByteArray.size]
theorem txt_size {s : ByteArray} (h : txt s = true) : s.size ≤ 65535 := by
  unfold txt chk at h
  by_cases h1 : 65535 < s.size
  · simp [h1] at h
  · omega
end Go.Proofs.YtipagdhoeocjeaaGreat
namespace Go.Proofs.YtipagdhoeocjeaaGreat
open Go Go.RowKit
set_option linter.unusedSimpArgs false
set_option linter.unusedVariables false

/-- The levels from a place on, the first of which began earlier. -/
def lvs (s : ByteArray) : Nat → Nat → Nat → List ByteArray
  | 0, f, _ => [s.extract f s.size]
  | b + 1, f, i => if i < s.size then (if atB s i = 47 then s.extract f i :: lvs s b (i + 1) (i + 1) else lvs s b f (i + 1)) else [s.extract f s.size]
def levels (s : ByteArray) : List ByteArray := lvs s s.size 0 0
theorem lvs_end (s : ByteArray) (b f i : Nat) (h : ¬ i < s.size) : lvs s b f i = [s.extract f s.size] := by
  cases b with
  | zero => rfl
  | succ b => simp [lvs, h]
theorem lvs_cut (s : ByteArray) (b f i : Nat) (h : i < s.size) (hb : s.size ≤ i + b) (hc : atB s i = 47) : ∃ b', lvs s b f i = s.extract f i :: lvs s b' (i + 1) (i + 1) ∧ s.size ≤ i + 1 + b' := by
  cases b with
  | zero => omega
  | succ b => exact ⟨b, by simp [lvs, h, hc], by omega⟩
theorem lvs_on (s : ByteArray) (b f i : Nat) (h : i < s.size) (hb : s.size ≤ i + b) (hc : ¬ atB s i = 47) : ∃ b', lvs s b f i = lvs s b' f (i + 1) ∧ s.size ≤ i + 1 + b' := by
  cases b with
  | zero => omega
  | succ b => exact ⟨b, by simp [lvs, h, hc], by omega⟩


end Go.Proofs.YtipagdhoeocjeaaGreat
namespace Go.Proofs.YtipagdhoeocjeaaGreat
open Go
set_option linter.unusedSimpArgs false
set_option linter.unusedVariables false

abbrev Bs := List UInt8
/-- A text's levels, xa lists. -/
def split : Bs → List Bs
  | [] => [[]]
  | c :: r => if c = 47 then [] :: split r else
    match split r with
    | [] => [[c]]
    | h :: t => (c :: h) :: t
/-- The text of levels. -/
def joinL : List Bs → Bs
  | [] => []
  | [x] => x
  | x :: y :: r => x ++ 47 :: joinL (y :: r)

theorem split_ne (l : Bs) : split l ≠ [] := by
  cases l with
  | nil => simp [split]
  | cons c r =>
    unfold split
    split
    · simp
    · split <;> simp
theorem split_some (l : Bs) : ∃ h t, split l = h :: t := by
  cases h : split l with
  | nil => exact absurd h (split_ne l)
  | cons a t => exact ⟨a, t, rfl⟩
theorem split_slash (r : Bs) : split (47 :: r) = [] :: split r := by simp [split]
theorem split_plain (c : UInt8) (r h : Bs) (t : List Bs) (hc : ¬ c = 47) (e : split r = h :: t) : split (c :: r) = (c :: h) :: t := by
  simp [split, hc, e]
theorem join_split (l : Bs) : joinL (split l) = l := by
  induction l with
  | nil => rfl
  | cons c r ih =>
    obtain ⟨h, t, e⟩ := split_some r
    by_cases hc : c = 47
    · subst hc
      rw [split_slash, e]
      simp only [joinL, List.nil_append]
      rw [← e, ih]
    · rw [split_plain c r h t hc e]
      rw [e] at ih
      cases t with
      | nil => simp only [joinL] at ih ⊢; rw [ih]
      | cons y u => simp only [joinL] at ih ⊢; rw [List.cons_append, ih]
theorem split_append (a c : Bs) : split (a ++ 47 :: c) = split a ++ split c := by
  induction a with
  | nil => rw [List.nil_append, split_slash]; rfl
  | cons x r ih =>
    rw [List.cons_append]
    by_cases hx : x = 47
    · subst hx; rw [split_slash, split_slash, ih]; rfl
    · obtain ⟨h, t, e⟩ := split_some r
      rw [split_plain x _ h (t ++ split c) hx (by rw [ih, e]; rfl), split_plain x r h t hx e]
      rfl
theorem split_one (l : Bs) (h : 47 ∉ l) : split l = [l] := by
  induction l with
  | nil => rfl
  | cons c r ih =>
    simp only [List.mem_cons, not_or] at h
    rw [split_plain c r r [] (fun e => h.1 e.symm) (ih h.2)]
theorem split_none (l : Bs) : ∀ x ∈ split l, 47 ∉ x := by
  induction l with
  | nil => simp [split]
  | cons c r ih =>
    obtain ⟨h, t, e⟩ := split_some r
    rw [e] at ih
    by_cases hc : c = 47
    · subst hc; rw [split_slash, e]
      intro x hx
      rcases List.mem_cons.1 hx with rfl | hx
      · simp
      · exact ih x hx
    · rw [split_plain c r h t hc e]
      intro x hx
      rcases List.mem_cons.1 hx with rfl | hx
      · simp only [List.mem_cons, not_or]
        exact ⟨fun e => hc e.symm, ih h (by simp)⟩
      · exact ih x (by simp [hx])
theorem split_join : ∀ (l : List Bs), l ≠ [] → (∀ x ∈ l, 47 ∉ x) → split (joinL l) = l
  | [], h, _ => absurd rfl h
  | [x], _, h => split_one x (h x (by simp))
  | x :: y :: r, _, h => by
    simp only [joinL]
    rw [split_append, split_one x (h x (by simp)), split_join (y :: r) (by simp) (fun z hz => h z (by simp at hz ⊢; exact .inr hz))]
    rfl
theorem split_inj {a b : Bs} (h : split a = split b) : a = b := by
  rw [← join_split a, ← join_split b, h]
theorem split_one_iff (l : Bs) : (split l).length = 1 ↔ 47 ∉ l := by
  constructor
  · intro h
    obtain ⟨x, t, e⟩ := split_some l
    rw [e] at h
    have ht : t = [] := by cases t with
      | nil => rfl
      | cons a b => simp at h
    have hx := split_none l x (by rw [e]; simp)
    have hj := join_split l
    rw [e, ht] at hj
    simp only [joinL] at hj
    rw [← hj]; exact hx
  · intro h; rw [split_one l h]; rfl

/-- A text out of a list of its bytes. -/
def mkB (l : Bs) : ByteArray := ⟨l.toArray⟩
def unB (s : ByteArray) : Bs := s.data.toList
theorem un_mk (l : Bs) : unB (mkB l) = l := by simp [unB, mkB]
theorem mk_un (s : ByteArray) : mkB (unB s) = s := by
  obtain ⟨⟨l⟩⟩ := s; rfl
theorem un_inj {a b : ByteArray} (h : unB a = unB b) : a = b := by rw [← mk_un a, ← mk_un b, h]
theorem un_size (s : ByteArray) : (unB s).length = s.size := by simp [unB]
theorem un_extract (s : ByteArray) (i j : Nat) : unB (s.extract i j) = ((unB s).take j).drop i := by
  show (s.extract i j).data.toList = _
  rw [Lib.extract_data]
  simp [unB, List.drop_take]
theorem atB_un (s : ByteArray) (i : Nat) : atB s i = ((unB s)[i]?.getD 0).toNat := atB_list s i

theorem lvs_split (s : ByteArray) : ∀ (b f i : Nat), f ≤ i → i ≤ s.size → s.size ≤ i + b →
    ∃ h t, split ((unB s).drop i) = h :: t ∧ (lvs s b f i).map unB = (((unB s).take i).drop f ++ h) :: t
  | 0, f, i, hf, hi, hb => by
    have e : i = s.size := by omega
    subst e
    refine ⟨[], [], ?_, ?_⟩
    · rw [List.drop_eq_nil_of_le (by rw [un_size]; exact Nat.le_refl _)]; rfl
    · simp only [lvs, List.map_cons, List.map_nil, un_extract, List.append_nil]
  | b + 1, f, i, hf, hi, hb => by
    by_cases hlt : i < s.size
    · have hl : i < (unB s).length := by rw [un_size]; exact hlt
      have hd : (unB s).drop i = (unB s)[i] :: (unB s).drop (i + 1) := List.drop_eq_getElem_cons hl
      have hat : atB s i = ((unB s)[i]).toNat := by rw [atB_un, List.getElem?_eq_getElem hl]; rfl
      have ht : (unB s).take (i + 1) = (unB s).take i ++ [(unB s)[i]] := (List.take_succ_eq_append_getElem hl)
      by_cases hc : atB s i = 47
      · have hc' : (unB s)[i] = 47 := by
          rw [hat] at hc
          exact UInt8.toNat_inj.1 hc
        obtain ⟨h, t, e1, e2⟩ := lvs_split s b (i + 1) (i + 1) (Nat.le_refl _) (by omega) (by omega)
        refine ⟨[], h :: t, ?_, ?_⟩
        · rw [hd, hc', split_slash, e1]
        · simp only [lvs, hlt, hc, if_true, List.map_cons]
          rw [e2, un_extract]
          have : ((unB s).take (i + 1)).drop (i + 1) = [] := List.drop_eq_nil_of_le (by simp; omega)
          rw [this]
          simp
      · have hc' : ¬ (unB s)[i] = 47 := fun h => hc (by rw [hat, h]; rfl)
        obtain ⟨h, t, e1, e2⟩ := lvs_split s b f (i + 1) (by omega) (by omega) (by omega)
        refine ⟨(unB s)[i] :: h, t, ?_, ?_⟩
        · rw [hd]; exact split_plain _ _ _ _ hc' e1
        · simp only [lvs, hlt, hc, if_true, if_false]
          rw [e2, ht, List.drop_append_of_le_length (by simp; omega)]
          simp
    · have e : i = s.size := by omega
      subst e
      refine ⟨[], [], ?_, ?_⟩
      · rw [List.drop_eq_nil_of_le (by rw [un_size]; exact Nat.le_refl _)]; rfl
      · rw [lvs_end s _ f _ hlt]
        simp only [List.map_cons, List.map_nil, un_extract, List.append_nil]
theorem levels_split (s : ByteArray) : (levels s).map unB = split (unB s) := by
  obtain ⟨h, t, e1, e2⟩ := lvs_split s s.size 0 0 (Nat.le_refl _) (Nat.zero_le _) (by omega)
  rw [levels, e2]
  simp at e1 ⊢
  exact e1.symm
theorem levels_mk (s : ByteArray) : levels s = (split (unB s)).map mkB := by
  rw [← levels_split, List.map_map]
  conv => lhs; rw [← List.map_id (levels s)]
  exact List.map_congr_left fun x _ => (mk_un x).symm

/-- A byte's place in the order. -/
def rk (c : UInt8) : Int := if c = 47 then -1 else (c.toNat : Int)
theorem rk_inj {a b : UInt8} (h : rk a = rk b) : a = b := by
  unfold rk at h
  split at h
  · split at h
    · rename_i h1 h2; rw [h1, h2]
    · have := Int.natCast_nonneg b.toNat; omega
  · split at h
    · have := Int.natCast_nonneg a.toNat; omega
    · exact UInt8.toNat_inj.1 (by omega)
/-- The order of texts, byte by byte. -/
def cmpL : Bs → Bs → Int
  | [], [] => 0
  | [], _ :: _ => -1
  | _ :: _, [] => 1
  | a :: xa, b :: bs => if a = b then cmpL xa bs else if rk a < rk b then -1 else 1
theorem cmpL_range : ∀ a b, cmpL a b = -1 ∨ cmpL a b = 0 ∨ cmpL a b = 1
  | [], [] => by simp [cmpL]
  | [], _ :: _ => by simp [cmpL]
  | _ :: _, [] => by simp [cmpL]
  | a :: xa, b :: bs => by
    unfold cmpL
    split
    · exact cmpL_range xa bs
    · split <;> simp
theorem cmpL_flip : ∀ a b, cmpL b a = - cmpL a b
  | [], [] => by simp [cmpL]
  | [], _ :: _ => by simp [cmpL]
  | _ :: _, [] => by simp [cmpL]
  | a :: xa, b :: bs => by
    unfold cmpL
    by_cases h : a = b
    · subst h; simp; exact cmpL_flip xa bs
    · have h' : ¬ b = a := fun e => h e.symm
      have hn : ¬ rk a = rk b := fun e => h (rk_inj e)
      rw [if_neg h, if_neg h']
      by_cases hr : rk a < rk b
      · rw [if_pos hr, if_neg (by omega)]; rfl
      · rw [if_neg hr, if_pos (by omega)]
theorem cmpL_zero : ∀ a b, cmpL a b = 0 ↔ a = b
  | [], [] => by simp [cmpL]
  | [], _ :: _ => by simp [cmpL]
  | _ :: _, [] => by simp [cmpL]
  | a :: xa, b :: bs => by
    unfold cmpL
    by_cases h : a = b
    · subst h; simp; exact cmpL_zero xa bs
    · rw [if_neg h]
      have : ¬ a :: xa = b :: bs := fun e => h (List.cons.inj e).1
      simp only [this, iff_false]
      split <;> simp
theorem cmpL_trans : ∀ a b c, cmpL a b ≤ 0 → cmpL b c ≤ 0 → cmpL a c ≤ 0
  | [], b, [], _, _ => by simp [cmpL]
  | [], b, _ :: _, _, _ => by simp [cmpL]
  | a :: xa, [], c, h, _ => by simp [cmpL] at h
  | a :: xa, b :: bs, [], _, h => by simp [cmpL] at h
  | a :: xa, b :: bs, c :: cs, h1, h2 => by
    unfold cmpL at h1 h2 ⊢
    by_cases e1 : a = b
    · subst e1
      rw [if_pos rfl] at h1
      by_cases e2 : a = c
      · subst e2
        rw [if_pos rfl] at h2 ⊢
        exact cmpL_trans xa bs cs h1 h2
      · rw [if_neg e2] at h2 ⊢
        exact h2
    · rw [if_neg e1] at h1
      by_cases e2 : b = c
      · subst e2
        rw [if_neg e1]; exact h1
      · rw [if_neg e2] at h2
        have r1 : rk a < rk b := by
          apply Classical.byContradiction; intro hn; rw [if_neg hn] at h1; omega
        have r2 : rk b < rk c := by
          apply Classical.byContradiction; intro hn; rw [if_neg hn] at h2; omega
        have e3 : ¬ a = c := fun e => by subst e; omega
        rw [if_neg e3, if_pos (by omega)]; omega
theorem cmpL_longer : ∀ a z, cmpL a (a ++ 47 :: z) = -1
  | [], z => by simp [cmpL]
  | a :: xa, z => by
    rw [List.cons_append]
    unfold cmpL
    rw [if_pos rfl]
    exact cmpL_longer xa z
theorem cmpL_between : ∀ a b z, cmpL a b = -1 → cmpL b (a ++ 47 :: z) = -1 → ∃ c, b = a ++ 47 :: c
  | [], [], z, h, _ => by simp [cmpL] at h
  | [], c :: r, z, _, h => by
    rw [List.nil_append] at h
    unfold cmpL at h
    by_cases e : c = 47
    · subst e; exact ⟨r, rfl⟩
    · rw [if_neg e] at h
      have : ¬ rk c < rk 47 := by
        have h1 : rk 47 = -1 := rfl
        have h2 : rk c = c.toNat := by simp [rk, e]
        have := Int.natCast_nonneg c.toNat
        omega
      rw [if_neg this] at h; omega
  | a :: xa, [], z, h, _ => by simp [cmpL] at h
  | a :: xa, b :: bs, z, h1, h2 => by
    rw [List.cons_append] at h2
    unfold cmpL at h1 h2
    by_cases e : a = b
    · subst e
      rw [if_pos rfl] at h1 h2
      obtain ⟨c, rfl⟩ := cmpL_between xa bs z h1 h2
      exact ⟨c, rfl⟩
    · have e' : ¬ b = a := fun x => e x.symm
      rw [if_neg e] at h1
      rw [if_neg e'] at h2
      have r1 : rk a < rk b := by
        apply Classical.byContradiction; intro hn; rw [if_neg hn] at h1; omega
      rw [if_neg (by omega)] at h2; omega

/-- Bytes in their own order. -/
def ltL : Bs → Bs → Bool
  | _, [] => false
  | [], _ :: _ => true
  | a :: xa, b :: bs => if a = b then ltL xa bs else decide (a.toNat < b.toNat)
/-- The order of levels. -/
def cmpV : List Bs → List Bs → Int
  | [], [] => 0
  | [], _ :: _ => -1
  | _ :: _, [] => 1
  | a :: xa, b :: bs => if a = b then cmpV xa bs else if ltL a b then -1 else 1
theorem cmpV_cons (c : UInt8) (h g : Bs) (t u : List Bs) : cmpV ((c :: h) :: t) ((c :: g) :: u) = cmpV (h :: t) (g :: u) := by
  simp only [cmpV, ltL, if_true, List.cons.injEq, true_and]
theorem cmpV_split : ∀ a b, cmpV (split a) (split b) = cmpL a b
  | [], [] => by simp [split, cmpV, cmpL]
  | [], c :: r => by
    by_cases hc : c = 47
    · subst hc; rw [split_slash]; obtain ⟨h, t, e⟩ := split_some r; rw [e]; simp [split, cmpV, cmpL]
    · obtain ⟨h, t, e⟩ := split_some r; rw [split_plain c r h t hc e]; simp [split, cmpV, cmpL, ltL]
  | c :: r, [] => by
    by_cases hc : c = 47
    · subst hc; rw [split_slash]; obtain ⟨h, t, e⟩ := split_some r; rw [e]; simp [split, cmpV, cmpL]
    · obtain ⟨h, t, e⟩ := split_some r; rw [split_plain c r h t hc e]; simp [split, cmpV, cmpL, ltL]
  | c :: r, d :: q => by
    have ih := cmpV_split r q
    obtain ⟨h, t, e⟩ := split_some r
    obtain ⟨g, u, e'⟩ := split_some q
    by_cases hc : c = 47
    · by_cases hd : d = 47
      · subst hc; subst hd
        rw [split_slash, split_slash]
        simp only [cmpV, cmpL, if_true]; exact ih
      · subst hc
        rw [split_slash, split_plain d q g u hd e']
        have n1 : ¬ (47 : UInt8) = d := fun x => hd x.symm
        have n2 : rk 47 < rk d := by
          have h1 : rk 47 = -1 := rfl
          have h2 : rk d = d.toNat := by simp [rk, hd]
          have := Int.natCast_nonneg d.toNat
          omega
        simp [cmpV, cmpL, ltL, n1, n2]
    · by_cases hd : d = 47
      · subst hd
        rw [split_slash, split_plain c r h t hc e]
        have n2 : ¬ rk c < rk 47 := by
          have h1 : rk 47 = -1 := rfl
          have h2 : rk c = c.toNat := by simp [rk, hc]
          have := Int.natCast_nonneg c.toNat
          omega
        simp [cmpV, cmpL, ltL, hc, n2]
      · rw [split_plain c r h t hc e, split_plain d q g u hd e']
        by_cases hcd : c = d
        · subst hcd
          rw [cmpV_cons]
          simp only [cmpL, if_true]
          rw [← ih, e, e']
        · have hr : (rk c < rk d) ↔ c.toNat < d.toNat := by
            simp only [rk, hc, hd, if_false]; omega
          simp only [cmpV, cmpL, ltL, hcd, if_false, List.cons.injEq, false_and, hr, decide_eq_true_eq]
end Go.Proofs.YtipagdhoeocjeaaGreat
namespace Go.Proofs.YtipagdhoeocjeaaGreat
open Go Go.RowKit
set_option linter.unusedSimpArgs false
set_option linter.unusedVariables false

/-- The order of two numbers. -/
def sg (x y : Int) : Int := if x < y then -1 else if y < x then 1 else 0

end Go.Proofs.YtipagdhoeocjeaaGreat
namespace Go.Proofs.YtipagdhoeocjeaaGreat
open Go Go.RowKit
set_option linter.unusedSimpArgs false
set_option linter.unusedVariables false

theorem cmpL_len : ∀ (a b : Bs), (∀ i, i < min a.length b.length → a[i]? = b[i]?) → cmpL a b = sg a.length b.length
  | [], [], _ => rfl
  | [], y :: ys, _ => by simp only [cmpL, sg, List.length_cons, List.length_nil]; rw [if_pos (by omega)]
  | x :: xs, [], _ => by simp only [cmpL, sg, List.length_cons, List.length_nil]; rw [if_neg (by omega), if_pos (by omega)]
  | x :: xs, y :: ys, h => by
    have h0 := h 0 (by simp)
    simp at h0
    subst h0
    simp only [cmpL, if_true]
    rw [cmpL_len xs ys (fun i hi => by have := h (i + 1) (by simp; omega); simpa using this)]
    simp only [sg, List.length_cons]
    congr 1
    · simp only [Int.natCast_add, eq_iff_iff]; omega
    · congr 1
      simp only [Int.natCast_add, eq_iff_iff]; omega
theorem cmpL_part : ∀ (a b : Bs) (k : Nat) (x y : UInt8), (∀ i, i < k → a[i]? = b[i]?) → a[k]? = some x → b[k]? = some y → ¬ x = y → cmpL a b = sg (rk x) (rk y)
  | [], _, k, _, _, _, h, _, _ => by simp at h
  | _ :: _, [], k, _, _, _, _, h, _ => by simp at h
  | p :: ps, q :: qs, 0, x, y, _, h1, h2, hn => by
    simp at h1 h2
    subst h1; subst h2
    have : ¬ rk p = rk q := fun e => hn (rk_inj e)
    simp only [cmpL, sg, if_neg hn]
    by_cases h : rk p < rk q
    · rw [if_pos h, if_pos h]
    · rw [if_neg h, if_neg h, if_pos (by omega)]
  | p :: ps, q :: qs, k + 1, x, y, h, h1, h2, hn => by
    have h0 := h 0 (by omega)
    simp at h0
    subst h0
    simp only [cmpL, if_true]
    exact cmpL_part ps qs k x y (fun i hi => by have := h (i + 1) (by omega); simpa using this) (by simpa using h1) (by simpa using h2) hn
theorem un_get (s : ByteArray) (i : Nat) (h : i < s.size) : (unB s)[i]? = some (s[i]'h) := by
  have h' : i < (unB s).length := by rw [un_size]; exact h
  rw [List.getElem?_eq_getElem h']; rfl


end Go.Proofs.YtipagdhoeocjeaaGreat
namespace Go.Proofs.YtipagdhoeocjeaaGreat
open Go Go.RowKit
set_option linter.unusedSimpArgs false
set_option linter.unusedVariables false

/-- A slice of texts, as it lies in memory. -/
def Row (w : World) (v : Value) (xs : List ByteArray) : Prop :=
  ∃ a n cap, v = .slice a n cap ∧ n = xs.length ∧ n ≤ cap ∧ (xs ≠ [] → ∃ g o, a = some ⟨g, o, none⟩ ∧ g < w.heap.size ∧ ∀ k x, xs[k]? = some x → w.cell? ⟨g, o + k, none⟩ = some (.string x))
theorem Row.later {w w' : World} {v : Value} {xs : List ByteArray} (h : Row w v xs) (hb : Below w.heap.size w w') : Row w' v xs := by
  obtain ⟨a, n, cap, rfl, hn, hc, hx⟩ := h
  refine ⟨a, n, cap, rfl, hn, hc, fun hne => ?_⟩
  obtain ⟨g, o, rfl, hg, hk⟩ := hx hne
  exact ⟨g, o, rfl, Nat.lt_of_lt_of_le hg hb.size, fun k x hk' => by rw [hb.cell (by exact hg)]; exact hk k x hk'⟩
theorem Row.drew {w : World} {v : Value} {xs : List ByteArray} (h : Row w v xs) (n : Nat) : Row (w.drewN n) v xs := h.later (below_drewN (Below.refl _ _) n)
theorem Row.cons {w : World} {v : Value} {x : ByteArray} {xs : List ByteArray} (h : Row w v (x :: xs)) : ∃ g o n cap, v = .slice (some ⟨g, o, none⟩) n cap ∧ n = xs.length + 1 ∧ n ≤ cap ∧ g < w.heap.size ∧ w.cell? ⟨g, o, none⟩ = some (.string x) ∧ ∀ k y, xs[k]? = some y → w.cell? ⟨g, o + (k + 1), none⟩ = some (.string y) := by
  obtain ⟨a, n, cap, rfl, hn, hc, hx⟩ := h
  obtain ⟨g, o, rfl, hg, hk⟩ := hx (by simp)
  exact ⟨g, o, n, cap, rfl, hn, hc, hg, hk 0 x rfl, fun k y h => hk (k + 1) y (by simpa using h)⟩
theorem Row.nil {w : World} {v : Value} (h : Row w v []) : ∃ a cap, v = .slice a 0 cap := by
  obtain ⟨a, n, cap, rfl, hn, hc, hx⟩ := h
  subst hn
  exact ⟨a, cap, rfl⟩
/-- Do a filter's levels match a topic's? -/
def mt : List Bs → List Bs → Bool
  | [], t => t.isEmpty
  | f :: fs, t => if f = [35] then true else
    match t with
    | [] => false
    | x :: xs => if f ≠ [43] ∧ f ≠ x then false else mt fs xs
theorem un_list (s : ByteArray) : s.toList = unB s := Lib.toList_data s
theorem eq_two (s t : ByteArray) : (s.toList == t.toList) = decide (unB s = unB t) := by
  rw [un_list, un_list]; by_cases h : unB s = unB t <;> simp [h]
theorem eq_one (s : ByteArray) (c : UInt8) : (s.toList == (⟨#[c]⟩ : ByteArray).toList) = decide (unB s = [c]) := eq_two s ⟨#[c]⟩
theorem eq_one' (s : ByteArray) (c : UInt8) : (s.toList == [c]) = decide (unB s = [c]) := by
  rw [← eq_one, un_list ⟨#[c]⟩]; rfl
set_option maxRecDepth 100000 in
set_option maxHeartbeats 1000000 in
theorem Row.tail {w : World} {g o n cap : Nat} {xs : List ByteArray} (hn : n = xs.length + 1) (hc : n ≤ cap) (hg : g < w.heap.size) (hk : ∀ k y, xs[k]? = some y → w.cell? ⟨g, o + (k + 1), none⟩ = some (.string y)) (a : Option Addr) (ha : xs ≠ [] → a = some ⟨g, o + 1, none⟩) : Row w (.slice a (n - 1) (cap - 1)) xs :=
  ⟨a, n - 1, cap - 1, rfl, by omega, by omega, fun hne => ⟨g, o + 1, ha hne, hg, fun k x h => by have := hk k x h; rw [show o + 1 + k = o + (k + 1) by omega]; exact this⟩⟩
end Go.Proofs.YtipagdhoeocjeaaGreat
