import Derived.Test.YtepjcfhbbcaldaaProg
import Derived.DeepKeys4
import Derived.WalkKit
import Derived.WalkSpells
import Derived.WalkLawsBesides
import Derived.Lib.Strings
import Derived.Deep.QuietTactic
import Derived.BigQuiet
import Derived.Deep.RegionWith
import Derived.Laws.Rows
import Derived.Laws.ResultCell
import Derived.Deep.LoopGhost
import Derived.Deep.RegionHeldLaw
import Derived.Deep.RegionLaw
import Derived.RegionCalls
import Derived.Lib.AppendZeros
import Derived.Maps.AppendAt
import Derived.Laws.OwnMore
import Derived.Laws.RangeAny
import Derived.Laws.AppendOwn
import Derived.OwnWalk
namespace Go.Proofs.Ytepjcfhbbcaldaa.Li
open Go Go.RowKit
set_option linter.unusedSimpArgs false
set_option linter.unusedVariables false
structure Ch (S : Nat → Prop) (w w' : World) : Prop where
  os : w'.os = w.os
  tape : w'.tape = w.tape
  output : w'.output = w.output
  size : w.heap.size ≤ w'.heap.size
  block : ∀ k, k < w.heap.size → ¬ S k → w'.heap[k]? = w.heap[k]?
theorem Ch.refl (S : Nat → Prop) (w : World) : Ch S w w := ⟨rfl, rfl, rfl, Nat.le_refl _, fun _ _ _ => rfl⟩
theorem Ch.trans {S S' : Nat → Prop} {a b c : World} (h : Ch S a b) (k : Ch S' b c) (hs : ∀ j, j < a.heap.size → S' j → S j) : Ch S a c :=
  ⟨k.os.trans h.os, k.tape.trans h.tape, k.output.trans h.output, Nat.le_trans h.size k.size, fun j hj hn => (k.block j (by have := h.size; omega) (fun q => hn (hs j hj q))).trans (h.block j hj hn)⟩
theorem Ch.mono {S S' : Nat → Prop} {a b : World} (h : Ch S a b) (hs : ∀ j, j < a.heap.size → S j → S' j) : Ch S' a b := (Ch.refl S' a).trans h hs
theorem Below.ch {S : Nat → Prop} {a b : World} (h : Below a.heap.size a b) : Ch S a b := ⟨h.os, h.tape, h.output, h.size, fun k hk _ => h.block k hk⟩
theorem ch_set {w : World} (hb i : Nat) (v : Value) : Ch (fun k => k = hb) w (w.setCell ⟨hb, i, none⟩ v) := ⟨rfl, rfl, rfl, by simp [World.setCell], fun k hk hn => Below.heap_setCell _ _ _ _ hn⟩
theorem ch_grown {w w' : World} {r : Option Nat} (h : w.grownBy w' r) : Ch (fun k => r = some k) w w' := ⟨h.os, h.tape, h.output, h.size, fun k hk hn => h.block k hk (fun e => hn e.symm)⟩
theorem ch_alloc (S : Nat → Prop) (w : World) (o : Obj) : Ch S w (w.alloc o) := (ch_grown (World.grownBy_alloc w o none)).mono (fun j hj q => by cases q)
theorem box_cells {w : World} {g t : Nat} {cs : Array Value} {fz : Nat × Nat} (h : w.heap[g]? = some (.cells cs t fz)) (k : Nat) (v : Value) (hk : cs[k]? = some v) : w.cell? ⟨g, k, none⟩ = some v := by
  simp [World.cell?, h, hk]
theorem box_frozen {w : World} {g t : Nat} {cs : Array Value} (h : w.heap[g]? = some (.cells cs t (0, 0))) (k : Nat) : w.frozen? ⟨g, k, none⟩ = false := by
  simp [World.frozen?, h]
theorem heap_set {w : World} {g t k : Nat} {cs : Array Value} {fz : Nat × Nat} (h : w.heap[g]? = some (.cells cs t fz)) (v : Value) : (w.setCell ⟨g, k, none⟩ v).heap[g]? = some (.cells (cs.setIfInBounds k v) t fz) := by
  simp [World.setCell, Array.getElem?_modify, h]
theorem heap_set_ne {w : World} {g j k : Nat} (v : Value) (hn : j ≠ g) : (w.setCell ⟨g, k, none⟩ v).heap[j]? = w.heap[j]? := Below.heap_setCell _ _ _ _ hn
theorem ch_drew (S : Nat → Prop) (w : World) : Ch S w w.drew := Below.ch (Below.drew (Below.refl _ _))
theorem Ch.then {S : Nat → Prop} {a b c : World} (h : Ch S a b) (k : Ch S b c) : Ch S a c := h.trans k (fun _ _ q => q)
theorem ch_turned {w w' : World} {b : Nat} (h : w.mapTurned w' b) : Ch (fun j => j = b) w w' := (ch_grown h.grown).mono (fun j _ q => by simpa using q.symm)
def hv (v : Value) : Option (DataW Value × List MemPlace) := some (.held v, [])

/-! ### Maps of numbers -/

theorem cell_heap {w w' : World} {a : Addr} (h : w'.heap[a.block]? = w.heap[a.block]?) : w'.cell? a = w.cell? a := by
  unfold World.cell?
  rw [h]

theorem heap_alloc_new (w : World) (o : Obj) : (w.alloc o).heap[w.heap.size]? = some o := by
  show (w.heap.push o)[w.heap.size]? = _
  exact Array.getElem?_push_size
theorem addr_at (g j : Nat) : (⟨g, 0, none⟩ : Addr).add j = ⟨g, j, none⟩ := by unfold Addr.add; split <;> simp_all
theorem app_gen {w : World} {v : Value} {n s bytes : Nat} {st e : TypeId} {xs : List Value} {cs : Array Value} {z : Value} (hu : Try.prog.underlying st = some (.slice e)) (hi : (Try.prog.info? e).map (fun i => (i.zero, i.size, i.bytes)) = some (some z, s, bytes)) (hz : z.cells.size = s) (hs : 0 < s) (hb : bytes ≤ 400)
    (ho : w.ownsRow 0 e s v n xs) (hc : cs.size = s) (h1 : ∀ u ∈ cs.toList, u.oneCell' = true) (hn : n ≤ 1000000) :
    ∃ g' cap' w', (Builtin.append_ #[st, st] st #[v, .slice (some ⟨w.heap.size, 0, none⟩) 1 1]).run Try.prog (w.alloc (.cells cs e)) = .ok (.slice (some ⟨g', 0, none⟩) (n + 1) cap') w' ∧ w'.ownsRow 0 e s (.slice (some ⟨g', 0, none⟩) (n + 1) cap') (n + 1) (xs ++ cs.toList) ∧ Ch (fun j => v.ownBlock = some j) w w' ∧ (v.ownBlock = some g' ∨ w.heap.size ≤ g') := by
  obtain ⟨i0, hi0, hzz⟩ := Option.map_eq_some_iff.1 hi
  simp only [Prod.mk.injEq] at hzz
  obtain ⟨v', w', hr, h2, h3, h4, h5⟩ := run_append_own_at (P := Try.prog) (w.alloc (.cells cs e)) 0 st st e i0 z s bytes hu hi0 hzz.1 hzz.2.1 hzz.2.2 hz hs v n xs (ho.alloc _) ⟨w.heap.size, 0, none⟩ 1 1 cs.toList (by simp [hc]) (fun j u hu => by
    rw [addr_at]
    exact box_cells (heap_alloc_new w _) j u (by simpa using hu)) h1 (by unfold maxLen; omega) (Nat.le_trans (Nat.mul_le_mul (show n + 1 ≤ 1000001 by omega) hb) (by omega)) (by omega)
  rcases h2.2 with ⟨_, q⟩ | ⟨g', cap', cur, rfl, _⟩
  · omega
  · refine ⟨g', cap', w', hr, h2, ?_, ?_⟩
    · exact (ch_alloc _ _ _).then ((ch_grown h3).mono (fun j _ q => q))
    · rcases h5 with q | q
      · exact .inl (by rw [← q]; rfl)
      · simp [Value.ownBlock] at q
        exact .inr (by omega)
theorem step_app {P : Program} {ops : Array Oper} {o : Oper} {a : Act} {w : World} {K : Act → World → Prop} {Q : Exit → Act → World → Prop} {E : Prop} (hg : o.guard = none) (s x : Operand) (t tx : TypeId)
    (hop : o.op = Op.call { callee := Callee.builtin Builtin.append, args := #[s, x], argTypes := #[t, tx] }) (vs vx : Value) (hs : a.eval s = vs) (hx : a.eval x = vx) (v : Value) (w' : World)
    (hrun : (Builtin.append_ #[t, tx] o.type #[vs, vx]).run P w = .ok v w') (hK : K (a.put o.dst v) w') : if Region.wanted o (yielded ops a.tmps) = true then Oper.wp P o a w K Q else E := by
  have hw : Region.wanted o (yielded ops a.tmps) = true := by simp [Region.wanted, hg]
  rw [if_pos hw]
  unfold Oper.wp
  simp [execOp, hop, resolve, invoke, builtin, hs, hx, hrun, Result.andThen]
  exact hK
theorem own_lt {w : World} {B e s n : Nat} {v : Value} {xs : List Value} (h : w.ownsRow B e s v n xs) {g : Nat} (hg : v.ownBlock = some g) : ∃ cur, w.heap[g]? = some (.cells cur e (0, 0)) := by
  rcases h.2 with ⟨rfl, _⟩ | ⟨g', cap, cur, rfl, _, h2, _⟩
  · simp [Value.ownBlock] at hg
  · simp [Value.ownBlock] at hg
    subst hg
    exact ⟨cur, h2⟩
theorem own_ch {w w' : World} {S : Nat → Prop} {B e s n : Nat} {v : Value} {xs : List Value} (h : w.ownsRow B e s v n xs) (hc : Ch S w w') (hs : ∀ g, v.ownBlock = some g → ¬ S g) : w'.ownsRow B e s v n xs := by
  refine ⟨h.1, ?_⟩
  rcases h.2 with h0 | ⟨g, cap, cur, rfl, h1, h2, h3⟩
  · exact .inl h0
  · exact .inr ⟨g, cap, cur, rfl, h1, (hc.block g (Array.getElem?_eq_some_iff.1 h2).1 (hs g rfl)).trans h2, h3⟩

theorem own0 {w : World} {B e s n : Nat} {v : Value} {xs : List Value} (h : w.ownsRow B e s v n xs) : w.ownsRow 0 e s v n xs := by
  refine ⟨h.1, ?_⟩
  rcases h.2 with q | ⟨g, cap, cur, q, q1, q2⟩
  · exact .inl q
  · exact .inr ⟨g, cap, cur, q, Nat.zero_le _, q2⟩

theorem hidi {p : Prop} (h : p) : Hid p := h
/-! ### SortedFunc of a map's values -/

theorem info_parts {P : Program} {t s b : Nat} {z : Value} (h : (P.info? t).map (fun i => (i.zero, i.size, i.bytes)) = some (some z, s, b)) : ∃ i, P.info? t = some i ∧ i.zero = some z ∧ i.size = s ∧ i.bytes = b := by
  obtain ⟨i, hi, hz⟩ := Option.map_eq_some_iff.1 h
  simp only [Prod.mk.injEq] at hz
  exact ⟨i, hi, hz.1, hz.2.1, hz.2.2⟩

theorem row_ge {w : World} {B e s n : Nat} {v : Value} {xs : List Value} (h : w.ownsRow B e s v n xs) {g : Nat} (hg : v.ownBlock = some g) : B ≤ g := by
  rcases h.2 with ⟨rfl, _⟩ | ⟨g', cap, cur, rfl, q, _⟩
  · simp [Value.ownBlock] at hg
  · simp [Value.ownBlock] at hg
    omega
theorem row_base {w : World} {B B' e s n : Nat} {v : Value} {xs : List Value} (h : w.ownsRow B e s v n xs) (hb : ∀ g, v.ownBlock = some g → B' ≤ g) : w.ownsRow B' e s v n xs :=
  ⟨h.1, h.2.elim .inl (fun ⟨g, cap, cur, a, b, c⟩ => .inr ⟨g, cap, cur, a, hb g (by rw [a]; rfl), c⟩)⟩
/-! Calls of the window: F stays, and so does what is no window's. -/
end Go.Proofs.Ytepjcfhbbcaldaa.Li
namespace Go.Proofs.Ytepjcfhbbcaldaa.Li
open Go Go.RowKit Go.Maps
set_option linter.unusedSimpArgs false
set_option linter.unusedVariables false
def okT (k : ByteArray) : Prop := k.size ≤ maxLen
def kt (k : ByteArray) : Lit := .string k.data.toList
theorem law9 : Maps.Keyed Try.prog 9 := Maps.string_keyed Try.underlying9
theorem keyOf_kt {k : ByteArray} (h : okT k) : keyOf Try.prog 9 (.string k) = some (kt k) := Go.WideMaps.keyOf_string_mk Try.underlying9 h
theorem kt_inj {a b : ByteArray} (ha : okT a) (hb : okT b) (h : kt a = kt b) : a = b := by
  have h1 := keyOf_kt ha
  rw [h] at h1
  have := law9.inj h1 (keyOf_kt hb)
  simp at this
  exact this
def setG (f : ByteArray → Option Value) (k : ByteArray) (v : Option Value) : ByteArray → Option Value := fun j => if j = k then v else f j
def szG (f : ByteArray → Option Value) (k : ByteArray) (n : Nat) : Nat := if (f k).isSome then n else n + 1
def MG (w : World) (mv : Value) (n : Nat) (f : ByteArray → Option Value) : Prop :=
  (mv = .map none ∧ n = 0 ∧ ∀ k, okT k → f k = none) ∨ ∃ mb D, mv = .map (some mb) ∧ w.ownsMap Try.prog 9 hv mb n D ∧ Maps.size D = n ∧ ∀ k, okT k → Maps.has D (kt k) = (f k).isSome ∧ ∀ v, f k = some v → ∀ z, D.atKey (kt k) z = .held v
theorem MG.keep {w w' : World} {mv : Value} {n : Nat} {f : ByteArray → Option Value} (h : MG w mv n f) (hs : ∀ b, mv = .map (some b) → w'.heap[b]? = w.heap[b]?) : MG w' mv n f := by
  rcases h with h | ⟨mb, D, h1, ⟨es, clock, hb, F, hs', hD⟩, h3, h4⟩
  · exact .inl h
  · exact .inr ⟨mb, D, h1, ⟨es, clock, (hs mb h1).trans hb, F, hs', hD⟩, h3, h4⟩
theorem MG.block {w : World} {mv : Value} {n : Nat} {f : ByteArray → Option Value} (h : MG w mv n f) {b : Nat} (hb : mv = .map (some b)) : ∃ es clock, w.heap[b]? = some (.map es clock) := by
  rcases h with ⟨h, _⟩ | ⟨mb, D, h1, ⟨es, clock, hm, _⟩, _⟩
  · rw [h] at hb; cases hb
  · rw [h1] at hb
    cases hb
    exact ⟨es, clock, hm⟩
theorem MG.lt {w : World} {mv : Value} {n : Nat} {f : ByteArray → Option Value} (h : MG w mv n f) {b : Nat} (hb : mv = .map (some b)) : b < w.heap.size := by
  obtain ⟨es, c, h⟩ := h.block hb
  exact (Array.getElem?_eq_some_iff.1 h).1
theorem MG.mk {w : World} {mv : Value} {n : Nat} {f : ByteArray → Option Value} (h : MG w mv n f) : mv = .map none ∨ ∃ mb, mv = .map (some mb) := by
  rcases h with ⟨h, _⟩ | ⟨mb, D, h1, _⟩
  · exact .inl h
  · exact .inr ⟨mb, h1⟩
theorem MG.made (w : World) : MG (w.alloc (.map #[] 0)) (.map (some w.heap.size)) 0 (fun _ => none) :=
  .inr ⟨w.heap.size, .map [], rfl, World.ownsMap_made w Try.prog 9 hv, rfl, fun k _ => ⟨rfl, fun v q => by cases q⟩⟩
theorem MG.nil (w : World) : MG w (.map none) 0 (fun _ => none) := .inl ⟨rfl, rfl, fun _ _ => rfl⟩
theorem MG.congr {w : World} {mv : Value} {n : Nat} {f g : ByteArray → Option Value} (h : MG w mv n f) (hg : ∀ k, okT k → g k = f k) : MG w mv n g := by
  rcases h with ⟨h, h1, h2⟩ | ⟨mb, D, h1, h2, h3, h4⟩
  · exact .inl ⟨h, h1, fun k hk => (hg k hk).trans (h2 k hk)⟩
  · exact .inr ⟨mb, D, h1, h2, h3, fun k hk => by rw [hg k hk]; exact h4 k hk⟩
theorem MG.look {w : World} {mv : Value} {n : Nat} {f : ByteArray → Option Value} (h : MG w mv n f) {t e : TypeId} (ht : Try.prog.underlying t = some (.map 9 e)) {z : Value} (hz : ∀ w, (zeroValue e).run Try.prog w = .ok z w) {k : ByteArray} (hk : okT k) :
    (Instr.lookup t mv (.string k) false).run Try.prog w = .ok ((f k).getD z) w := by
  rcases h with ⟨rfl, h1, h2⟩ | ⟨mb, D, rfl, h2, h3, h4⟩
  · rw [h2 k hk]
    exact Maps.look_nil false law9 ht (hz w) (keyOf_kt hk)
  · obtain ⟨v, ps, hrun, hv'⟩ := h2.lookup law9 ht (hz w) (zd := .held z) (zp := []) rfl (keyOf_kt hk)
    rw [hrun]
    cases e : f k with
    | none =>
      rw [Maps.atKey_of_not_has (by rw [(h4 k hk).1, e]; rfl)] at hv'
      simp [hv] at hv'
      rw [hv'.1]
      rfl
    | some x =>
      rw [(h4 k hk).2 x e] at hv'
      simp [hv] at hv'
      rw [hv'.1]
      rfl
theorem MG.look2 {w : World} {mv : Value} {n : Nat} {f : ByteArray → Option Value} (h : MG w mv n f) {t e : TypeId} (ht : Try.prog.underlying t = some (.map 9 e)) {z : Value} (hz : ∀ w, (zeroValue e).run Try.prog w = .ok z w) {k : ByteArray} (hk : okT k) :
    (Instr.lookup t mv (.string k) true).run Try.prog w = .ok (.tuple #[(f k).getD z, .bool (f k).isSome]) w := by
  rcases h with ⟨rfl, h1, h2⟩ | ⟨mb, D, rfl, h2, h3, h4⟩
  · rw [h2 k hk]
    exact Maps.look_nil true law9 ht (hz w) (keyOf_kt hk)
  · obtain ⟨v, ps, hrun, hv'⟩ := h2.look_ok law9 ht (hz w) (zd := .held z) (zp := []) rfl (keyOf_kt hk)
    rw [hrun, (h4 k hk).1]
    cases e : f k with
    | none =>
      rw [Maps.atKey_of_not_has (by rw [(h4 k hk).1, e]; rfl)] at hv'
      simp [hv] at hv'
      rw [hv'.1]
      rfl
    | some x =>
      rw [(h4 k hk).2 x e] at hv'
      simp [hv] at hv'
      rw [hv'.1]
      rfl
theorem MG.len {w : World} {mv : Value} {n : Nat} {f : ByteArray → Option Value} (h : MG w mv n f) {t e : TypeId} (ht : Try.prog.underlying t = some (.map 9 e)) (ty : TypeId) : (Builtin.len_ #[t] ty #[mv]).run Try.prog w = .ok (.int .i64 n) w := by
  rcases h with ⟨rfl, rfl, h2⟩ | ⟨mb, D, rfl, h2, h3, h4⟩
  · exact Maps.len_nil ht ty
  · rw [h2.len ht ty, h3]
theorem MG.put {w : World} {mb : Nat} {n : Nat} {f : ByteArray → Option Value} (h : MG w (.map (some mb)) n f) {t e : TypeId} (ht : Try.prog.underlying t = some (.map 9 e)) {k : ByteArray} (hk : okT k) (v : Value) (hn : n < maxLen) :
    ∃ w', (Instr.mapUpdate t (.map (some mb)) (.string k) v).run Try.prog w = .ok () w' ∧ MG w' (.map (some mb)) (szG f k n) (setG f k (some v)) ∧ Ch (fun j => j = mb) w w' := by
  rcases h with ⟨h, _⟩ | ⟨mb', D, h1, h2, h3, h4⟩
  · cases h
  · cases h1
    obtain ⟨w', hrun, ho, htd⟩ := h2.store law9 ht hn (keyOf_kt hk) (val := v) (d := .held v) (ps := []) rfl
    have hD := h2.tidy law9
    have hsz : Maps.size (D.put (kt k) (.held v)) = szG f k n := by
      rw [Maps.size_put hD, h3, (h4 k hk).1]
      rfl
    refine ⟨w', hrun, .inr ⟨mb, D.put (kt k) (.held v), rfl, ?_, hsz, fun k' hk' => ?_⟩, ch_turned htd⟩
    · obtain ⟨es, clock, hb, F, hs, hd⟩ := ho
      refine ⟨es, clock, hb, F, ?_, hd⟩
      rw [← hsz, hd]
      simp [Maps.size, length_sorted]
    · by_cases q : k' = k
      · subst q
        refine ⟨by rw [Maps.has_put_same hD.isMap (law9.key (keyOf_kt hk))]; simp [setG], fun x hx z => ?_⟩
        simp [setG] at hx
        rw [Maps.atKey_put_same hD.isMap (law9.key (keyOf_kt hk)), hx]
      · have hne : kt k' ≠ kt k := fun r => q (kt_inj hk' hk r)
        rw [Maps.has_put_other hne]
        refine ⟨by rw [(h4 k' hk').1]; simp [setG, q], fun x hx z => ?_⟩
        simp [setG, q] at hx
        rw [Maps.atKey_put_other hne, (h4 k' hk').2 x hx]
theorem MG.del {w : World} {mb : Nat} {n : Nat} {f : ByteArray → Option Value} (h : MG w (.map (some mb)) n f) {t e : TypeId} (ht : Try.prog.underlying t = some (.map 9 e)) {k : ByteArray} (hk : okT k) (ty : TypeId) :
    ∃ w', (Builtin.delete_ #[t, 9] ty #[.map (some mb), .string k]).run Try.prog w = .ok (.tuple #[]) w' ∧ MG w' (.map (some mb)) (n - (if (f k).isSome then 1 else 0)) (setG f k none) ∧ Ch (fun j => j = mb) w w' := by
  rcases h with ⟨h, _⟩ | ⟨mb', D, h1, h2, h3, h4⟩
  · cases h
  · cases h1
    obtain ⟨w', hrun, ho, htd⟩ := h2.drop law9 ht (keyOf_kt hk) ty
    have hD := h2.tidy law9
    have hsz : Maps.size (D.del (kt k)) = n - (if (f k).isSome then 1 else 0) := by
      have := Maps.size_del (k := kt k) hD
      rw [(h4 k hk).1, h3] at this
      omega
    refine ⟨w', hrun, .inr ⟨mb, D.del (kt k), rfl, ?_, hsz, fun k' hk' => ?_⟩, ch_turned htd⟩
    · obtain ⟨es, clock, hb, F, hs, hd⟩ := ho
      refine ⟨es, clock, hb, F, ?_, hd⟩
      rw [← hsz, hd]
      simp [Maps.size, length_sorted]
    · by_cases q : k' = k
      · subst q
        refine ⟨by rw [Maps.has_del_same]; simp [setG], fun x hx z => ?_⟩
        simp [setG] at hx
      · have hne : kt k' ≠ kt k := fun r => q (kt_inj hk' hk r)
        rw [Maps.has_del_other hne]
        refine ⟨by rw [(h4 k' hk').1]; simp [setG, q], fun x hx z => ?_⟩
        simp [setG, q] at hx
        rw [Maps.atKey_del_other hne, (h4 k' hk').2 x hx]
end Go.Proofs.Ytepjcfhbbcaldaa.Li
namespace Go.Proofs.Ytepjcfhbbcaldaa

/-- The byte at a place; 0 behind the end. -/
def atB (s : ByteArray) (i : Nat) : Nat := (s.get! i).toNat

theorem atB_lt (s : ByteArray) (i : Nat) : atB s i < 256 := (s.get! i).toNat_lt

theorem atB_in (s : ByteArray) (i : Nat) (h : i < s.size) : atB s i = (s[i]'h).toNat := by
  unfold atB; rw [← get_at s i h]; rfl

theorem atB_out (s : ByteArray) (i : Nat) (h : ¬ i < s.size) : atB s i = 0 := by
  unfold atB
  have : s.get! i = 0 := by
    simp only [ByteArray.get!]
    rw [getElem!_neg]
    · rfl
    · simpa using h
  rw [this]; rfl

theorem lt_of_atB (s : ByteArray) (i : Nat) (h : atB s i ≠ 0) : i < s.size := by
  apply Classical.byContradiction
  intro hn
  exact h (atB_out s i hn)

/-- How many bytes the code point takes whose first bytes these are; 0: none. -/
def pt (c d e f : Nat) : Nat :=
  if c ≤ 0x7F then 1
  else if (0xC2 ≤ c ∧ c ≤ 0xDF) ∧ (0x80 ≤ d ∧ d ≤ 0xBF) then 2
  else if (c = 0xE0 ∧ (0xA0 ≤ d ∧ d ≤ 0xBF) ∧ (0x80 ≤ e ∧ e ≤ 0xBF)) ∨ ((0xE1 ≤ c ∧ c ≤ 0xEC) ∧ (0x80 ≤ d ∧ d ≤ 0xBF) ∧ (0x80 ≤ e ∧ e ≤ 0xBF)) ∨ (c = 0xED ∧ (0x80 ≤ d ∧ d ≤ 0x9F) ∧ (0x80 ≤ e ∧ e ≤ 0xBF)) ∨ ((0xEE ≤ c ∧ c ≤ 0xEF) ∧ (0x80 ≤ d ∧ d ≤ 0xBF) ∧ (0x80 ≤ e ∧ e ≤ 0xBF)) then 3
  else if (c = 0xF0 ∧ (0x90 ≤ d ∧ d ≤ 0xBF) ∧ (0x80 ≤ e ∧ e ≤ 0xBF) ∧ (0x80 ≤ f ∧ f ≤ 0xBF)) ∨ ((0xF1 ≤ c ∧ c ≤ 0xF3) ∧ (0x80 ≤ d ∧ d ≤ 0xBF) ∧ (0x80 ≤ e ∧ e ≤ 0xBF) ∧ (0x80 ≤ f ∧ f ≤ 0xBF)) ∨ (c = 0xF4 ∧ (0x80 ≤ d ∧ d ≤ 0x8F) ∧ (0x80 ≤ e ∧ e ≤ 0xBF) ∧ (0x80 ≤ f ∧ f ≤ 0xBF)) then 4
  else 0

/-- Decoding by four bytes alone. -/
def dec (c d e f : Nat) : Nat × Nat :=
  if c < 0x80 then (c, 1)
  else if c / 32 = 6 ∧ d / 64 = 2 then
    if 0x80 ≤ (c % 32) * 64 + d % 64 then ((c % 32) * 64 + d % 64, 2) else (0xFFFD, 1)
  else if c / 16 = 14 ∧ d / 64 = 2 ∧ e / 64 = 2 then
    if 0x800 ≤ (c % 16) * 4096 + (d % 64) * 64 + e % 64 ∧ ((c % 16) * 4096 + (d % 64) * 64 + e % 64 < 0xD800 ∨ 0xE000 ≤ (c % 16) * 4096 + (d % 64) * 64 + e % 64) then ((c % 16) * 4096 + (d % 64) * 64 + e % 64, 3) else (0xFFFD, 1)
  else if c / 8 = 30 ∧ d / 64 = 2 ∧ e / 64 = 2 ∧ f / 64 = 2 then
    if 0x10000 ≤ (c % 8) * 262144 + (d % 64) * 4096 + (e % 64) * 64 + f % 64 ∧ (c % 8) * 262144 + (d % 64) * 4096 + (e % 64) * 64 + f % 64 ≤ 0x10FFFF then ((c % 8) * 262144 + (d % 64) * 4096 + (e % 64) * 64 + f % 64, 4) else (0xFFFD, 1)
  else (0xFFFD, 1)

theorem cont_iff (s : ByteArray) (i k : Nat) : (decide (i + k < s.size) && (s.get! (i + k)).toNat / 64 == 2) = decide (atB s (i + k) / 64 = 2) := by
  rw [Bool.eq_iff_iff]
  simp only [Bool.and_eq_true, decide_eq_true_eq, beq_iff_eq]
  constructor
  · exact fun h => h.2
  · intro h
    exact ⟨lt_of_atB s _ (by omega), h⟩

set_option maxRecDepth 100000 in
theorem decode_dec (s : ByteArray) (i : Nat) : Utf8.decode s i = dec (atB s i) (atB s (i + 1)) (atB s (i + 2)) (atB s (i + 3)) := by
  simp only [Utf8.decode, cont_iff]
  simp only [show ∀ j, (s.get! j).toNat = atB s j from fun _ => rfl, Nat.add_zero]
  have h0 := atB_lt s i
  have h1 := atB_lt s (i + 1)
  have h2 := atB_lt s (i + 2)
  have h3 := atB_lt s (i + 3)
  generalize atB s i = c at *
  generalize atB s (i + 1) = d at *
  generalize atB s (i + 2) = e at *
  generalize atB s (i + 3) = f at *
  unfold dec
  by_cases k1 : c < 0x80
  · simp [k1]
  rw [if_neg k1, if_neg k1]
  by_cases k2 : c / 32 = 6 ∧ d / 64 = 2
  · rw [if_pos (by simpa using k2), if_pos k2]; rfl
  rw [if_neg (by simpa using k2), if_neg k2]
  by_cases k3 : c / 16 = 14 ∧ d / 64 = 2 ∧ e / 64 = 2
  · rw [if_pos (by simpa [and_assoc] using k3), if_pos k3]
    obtain ⟨v, hv⟩ : ∃ v, c % 16 * 4096 + d % 64 * 64 + e % 64 = v := ⟨_, rfl⟩
    have hv' : v < 65536 := by omega
    rw [hv]
    by_cases kk : 0x800 ≤ v ∧ (v < 0xD800 ∨ 0xE000 ≤ v)
    · rw [if_pos kk, if_pos]
      simp only [Utf8.valid, Bool.and_eq_true, Bool.or_eq_true, decide_eq_true_eq]; omega
    · rw [if_neg kk, if_neg]
      · rfl
      · simp only [Utf8.valid, Bool.and_eq_true, Bool.or_eq_true, decide_eq_true_eq]; omega
  rw [if_neg (by simpa [and_assoc] using k3), if_neg k3]
  by_cases k4 : c / 8 = 30 ∧ d / 64 = 2 ∧ e / 64 = 2 ∧ f / 64 = 2
  · rw [if_pos (by simpa [and_assoc] using k4), if_pos k4]
    obtain ⟨v, hv⟩ : ∃ v, c % 8 * 262144 + d % 64 * 4096 + e % 64 * 64 + f % 64 = v := ⟨_, rfl⟩
    rw [hv]
    by_cases kk : 0x10000 ≤ v ∧ v ≤ 0x10FFFF
    · rw [if_pos kk, if_pos]
      simp only [Utf8.valid, Bool.and_eq_true, Bool.or_eq_true, decide_eq_true_eq]; omega
    · rw [if_neg kk, if_neg]
      · rfl
      · simp only [Utf8.valid, Bool.and_eq_true, Bool.or_eq_true, decide_eq_true_eq]; omega
  rw [if_neg (by simpa [and_assoc] using k4), if_neg k4]
  rfl

/-- What decoding tells, held against how many bytes the code point takes. -/
def Fits (n c d e : Nat) (x : Nat × Nat) : Prop :=
  (n = 0 → x.1 = 0xFFFD ∧ x.2 = 1 ∧ c ≠ 0 ∧ ¬ (c = 0xEF ∧ d = 0xBF ∧ e = 0xBD)) ∧
  (n ≠ 0 → x.2 = n ∧ (x.1 = 0 ↔ c = 0) ∧ (x.1 = 0xFFFD → c = 0xEF ∧ d = 0xBF ∧ e = 0xBD))

theorem fits_none {c d e : Nat} (h : c ≠ 0) (h' : ¬ (c = 0xEF ∧ d = 0xBF ∧ e = 0xBD)) : Fits 0 c d e (0xFFFD, 1) :=
  ⟨fun _ => ⟨rfl, rfl, h, h'⟩, fun x => absurd rfl x⟩
theorem fits_some {n c d e v : Nat} (hn : n ≠ 0) (h : v = 0 ↔ c = 0) (h' : v = 0xFFFD → c = 0xEF ∧ d = 0xBF ∧ e = 0xBD) : Fits n c d e (v, n) :=
  ⟨fun x => absurd x hn, fun _ => ⟨rfl, h, h'⟩⟩

theorem dec_pt (c d e f : Nat) (hc : c < 256) (hd : d < 256) (he : e < 256) (hf : f < 256) : Fits (pt c d e f) c d e (dec c d e f) := by
  unfold dec pt
  by_cases k1 : c < 0x80
  · rw [if_pos k1, if_pos (by omega)]
    exact fits_some (by decide) Iff.rfl (by omega)
  rw [if_neg k1, if_neg (by omega)]
  by_cases k2 : c / 32 = 6 ∧ d / 64 = 2
  · rw [if_pos k2]
    by_cases kk : 0x80 ≤ c % 32 * 64 + d % 64
    · rw [if_pos kk, if_pos (by omega)]
      exact fits_some (by decide) (by omega) (by omega)
    · rw [if_neg kk, if_neg (by omega), if_neg (by omega), if_neg (by omega)]
      exact fits_none (by omega) (by omega)
  rw [if_neg k2, if_neg (show ¬ ((0xC2 ≤ c ∧ c ≤ 0xDF) ∧ (0x80 ≤ d ∧ d ≤ 0xBF)) by omega)]
  by_cases k3 : c / 16 = 14 ∧ d / 64 = 2 ∧ e / 64 = 2
  · rw [if_pos k3]
    obtain ⟨x, y, z⟩ := k3
    obtain ⟨c, rfl⟩ : ∃ q, c = 0xE0 + q := ⟨c - 0xE0, by omega⟩
    obtain ⟨d, rfl⟩ : ∃ q, d = 0x80 + q := ⟨d - 0x80, by omega⟩
    obtain ⟨e, rfl⟩ : ∃ q, e = 0x80 + q := ⟨e - 0x80, by omega⟩
    have q1 : (0xE0 + c) % 16 = c := by omega
    have q2 : (0x80 + d) % 64 = d := by omega
    have q3 : (0x80 + e) % 64 = e := by omega
    rw [q1, q2, q3]
    have c1 : c < 16 := by omega
    have d1 : d < 64 := by omega
    have e1 : e < 64 := by omega
    clear x y z q1 q2 q3 k1 k2 hc hd he
    by_cases kk : 0x800 ≤ c * 4096 + d * 64 + e ∧ (c * 4096 + d * 64 + e < 0xD800 ∨ 0xE000 ≤ c * 4096 + d * 64 + e)
    · rw [if_pos kk, if_pos]
      · exact fits_some (by decide) (by omega) (by omega)
      · by_cases a : c = 0
        · left; omega
        by_cases b : c = 13
        · right; right; left; omega
        by_cases b' : c < 13
        · right; left; omega
        · right; right; right; omega
    · rw [if_neg kk, if_neg, if_neg (by omega)]
      · exact fits_none (by omega) (by omega)
      · by_cases a : c = 0
        · omega
        · omega
  rw [if_neg k3, if_neg (by omega)]
  by_cases k4 : c / 8 = 30 ∧ d / 64 = 2 ∧ e / 64 = 2 ∧ f / 64 = 2
  · rw [if_pos k4]
    obtain ⟨x, y, z, u⟩ := k4
    obtain ⟨c, rfl⟩ : ∃ q, c = 0xF0 + q := ⟨c - 0xF0, by omega⟩
    obtain ⟨d, rfl⟩ : ∃ q, d = 0x80 + q := ⟨d - 0x80, by omega⟩
    obtain ⟨e, rfl⟩ : ∃ q, e = 0x80 + q := ⟨e - 0x80, by omega⟩
    obtain ⟨f, rfl⟩ : ∃ q, f = 0x80 + q := ⟨f - 0x80, by omega⟩
    have q1 : (0xF0 + c) % 8 = c := by omega
    have q2 : (0x80 + d) % 64 = d := by omega
    have q3 : (0x80 + e) % 64 = e := by omega
    have q4 : (0x80 + f) % 64 = f := by omega
    rw [q1, q2, q3, q4]
    have c1 : c < 8 := by omega
    have d1 : d < 64 := by omega
    have e1 : e < 64 := by omega
    have f1 : f < 64 := by omega
    clear x y z u q1 q2 q3 q4 k1 k2 k3 hc hd he hf
    by_cases kk : 0x10000 ≤ c * 262144 + d * 4096 + e * 64 + f ∧ c * 262144 + d * 4096 + e * 64 + f ≤ 0x10FFFF
    · rw [if_pos kk, if_pos]
      · exact fits_some (by decide) (by omega) (by omega)
      · by_cases a : c = 0
        · left; omega
        by_cases b' : c < 4
        · right; left; omega
        · right; right; omega
    · rw [if_neg kk, if_neg]
      · exact fits_none (by omega) (by omega)
      · by_cases a : c = 0
        · omega
        · omega
  rw [if_neg k4, if_neg (by omega)]
  exact fits_none (by omega) (by omega)

/-- How many bytes the code point at a place takes; 0: none. -/
def point (s : ByteArray) (i : Nat) : Nat := pt (atB s i) (atB s (i + 1)) (atB s (i + 2)) (atB s (i + 3))

theorem point_fits (s : ByteArray) (i : Nat) : Fits (point s i) (atB s i) (atB s (i + 1)) (atB s (i + 2)) (Utf8.decode s i) := by
  rw [decode_dec]
  exact dec_pt _ _ _ _ (atB_lt _ _) (atB_lt _ _) (atB_lt _ _) (atB_lt _ _)

theorem point_le (s : ByteArray) (i : Nat) (h : i < s.size) : i + point s i ≤ s.size := by
  have a1 := lt_of_atB s (i + 1)
  have a2 := lt_of_atB s (i + 2)
  have a3 := lt_of_atB s (i + 3)
  unfold point pt
  split
  · omega
  split
  · rename_i k; have := a1 (by omega); omega
  split
  · rename_i k; have := a2 (by omega); omega
  split
  · rename_i k; have := a3 (by omega); omega
  · omega

end Go.Proofs.Ytepjcfhbbcaldaa
namespace Go.Proofs.Ytepjcfhbbcaldaa
open Go.RowKit
set_option linter.unusedSimpArgs false
set_option linter.unusedVariables false

/-- What Check tells from a place on, in so many steps at most. -/
def chkF (s : ByteArray) : Nat → Nat → Nat × Nat
  | 0, _ => (0, 0)
  | b + 1, k => if k < s.size then (if atB s k = 0 then (k, 14) else if point s k = 0 then (k, 13) else chkF s b (k + point s k)) else (0, 0)
/-- What Check tells. -/
def chk (s : ByteArray) : Nat × Nat := if 65535 < s.size then (65535, 11) else chkF s s.size 0

theorem chkF_end (s : ByteArray) (b k : Nat) (h : ¬ k < s.size) : chkF s b k = (0, 0) := by
  cases b with
  | zero => rfl
  | succ b => simp [chkF, h]
theorem chkF_zero (s : ByteArray) (b k : Nat) (h : k < s.size) (hb : s.size ≤ k + b) (hz : atB s k = 0) : chkF s b k = (k, 14) := by
  cases b with
  | zero => omega
  | succ b => simp [chkF, h, hz]
theorem chkF_utf (s : ByteArray) (b k : Nat) (h : k < s.size) (hb : s.size ≤ k + b) (hz : ¬ atB s k = 0) (hp : point s k = 0) : chkF s b k = (k, 13) := by
  cases b with
  | zero => omega
  | succ b => simp [chkF, h, hz, hp]
theorem chkF_step (s : ByteArray) (b k : Nat) (h : k < s.size) (hb : s.size ≤ k + b) (hz : ¬ atB s k = 0) (hp : ¬ point s k = 0) : ∃ b', chkF s b k = chkF s b' (k + point s k) ∧ s.size ≤ k + point s k + b' := by
  cases b with
  | zero => omega
  | succ b => exact ⟨b, by simp [chkF, h, hz, hp], by omega⟩

/-- Does a text begin with another? -/
def begins (s p : ByteArray) : Bool := decide (p.size ≤ s.size) && ((s.extract 0 p.size).toList == p.toList)

set_option maxHeartbeats 400000 in
theorem pre_any (s p : ByteArray) (w : World) :
    Calls Try.prog 35 #[.string s, .string p] w fun e w' => e = .returned (.bool (begins s p)) ∧ w' = w := by
  by_cases h : p.size ≤ s.size
  · have e : begins s p = ((s.extract 0 p.size).toList == p.toList) := by simp [begins, h]
    rw [e]
    clear e
    have h' : (p.size : Int) ≤ s.size := by omega
    go_enter Try.func35, Try.ntmps35
    go_wp2
    go_ret
    exact ⟨rfl, rfl⟩
  · have e : begins s p = false := by simp [begins, h]
    rw [e]
    clear e
    have h' : ¬ (p.size : Int) ≤ s.size := by omega
    go_enter Try.func35, Try.ntmps35
    go_wp2
    go_ret
    exact ⟨rfl, rfl⟩

theorem atB_list (s : ByteArray) (i : Nat) : atB s i = (s.data.toList[i]?.getD 0).toNat := by
  by_cases h : i < s.size
  · rw [atB_in s i h]
    have h' : i < s.data.toList.length := by simpa using h
    rw [List.getElem?_eq_getElem h']
    rfl
  · rw [atB_out s i h]
    have h' : s.data.toList.length ≤ i := by simpa using h
    rw [List.getElem?_eq_none h']
    rfl

theorem three (l : List UInt8) : List.isPrefixOf [239, 191, 189] l = decide ((l[0]?.getD 0).toNat = 239 ∧ (l[1]?.getD 0).toNat = 191 ∧ (l[2]?.getD 0).toNat = 189) := by
  have hq : ∀ (a b : UInt8), (a == b) = decide (b.toNat = a.toNat) := by
    intro a b
    rw [Bool.eq_iff_iff]
    simp only [beq_iff_eq, decide_eq_true_eq, UInt8.toNat_inj]
    exact eq_comm
  match l with
  | [] => rfl
  | [a] => simp [List.isPrefixOf]
  | [a, b] => simp [List.isPrefixOf]
  | a :: b :: c :: r =>
    simp only [List.isPrefixOf, hq, Bool.and_true]
    rw [Bool.eq_iff_iff]
    simp

theorem begins_three (s : ByteArray) (k : Nat) : begins (s.extract k s.size) ⟨#[239, 191, 189]⟩ = decide (atB s k = 239 ∧ atB s (k + 1) = 191 ∧ atB s (k + 2) = 189) := by
  unfold begins
  rw [Lib.hasPrefix_raw, Lib.extract_data, List.take_of_length_le (by simp)]
  unfold Lib.hasPrefix
  have e : (ByteArray.mk #[239, 191, 189]).data.toList = [239, 191, 189] := rfl
  rw [e, three]
  simp only [atB_list, List.getElem?_drop, Nat.add_zero]

theorem width_pos (s : ByteArray) (k : Nat) : 1 ≤ (Utf8.decode s k).2 := by
  have h := point_fits s k
  by_cases hp : point s k = 0
  · rw [(h.1 hp).2.1]; exact Nat.le_refl _
  · rw [(h.2 hp).1]; omega

set_option maxRecDepth 1000000 in
set_option maxHeartbeats 400000 in
theorem chk_world (s : ByteArray) (w : World) :
    Calls Try.prog 60 #[.string s] w fun e w' => e = .returned (.tuple #[.int .i64 (chk s).1, .int .i64 (chk s).2]) ∧ (w' = w ∨ ∃ k, w' = w.iter s k) := by
  by_cases hl : 65535 < s.size
  · have e : chk s = (65535, 11) := by simp [chk, hl]
    rw [e]
    clear e
    have hl' : (65535 : Int) < s.size := by omega
    go_enter Try.func60, Try.ntmps60
    go_wp2
    go_ret2
    exact ⟨rfl, .inl rfl⟩
  · have HE : Hid (chk s = chkF s s.size 0) := by simp [chk, hl, Hid]
    have hl' : ¬ (65535 : Int) < s.size := by omega
    have hs : s.size ≤ 65535 := by omega
    go_enter Try.func60, Try.ntmps60
    go_wp2
    go_loopw [4, 5] (fun i c w' => ∃ k b : Nat, w' = w.iter s k ∧ chk s = chkF s b k ∧ s.size ≤ k + b) (fun _ _ w' => s.size - w'.iterPos w.heap.size)
    case atStart => exact ⟨0, s.size, rfl, HE.out, by omega⟩
    case round =>
      obtain ⟨k, b, rfl, hc, hb⟩ := hrel
      have HC : Hid (chk s = chkF s b k) := hc
      clear hc
      by_cases hlt : k < s.size
      · obtain ⟨r, n, hd⟩ : ∃ r n, Utf8.decode s k = (r, n) := ⟨_, _, rfl⟩
        have hnx : ∀ ty, (Instr.next (.pointer (some ⟨w.heap.size, 0, none⟩)) true ty).run Try.prog (w.iter s k) = .ok (.tuple #[.bool true, .int .i64 k, .int .i32 r]) (w.iter s (k + n)) := by
          intro ty
          rw [run_next_any w s k ty hlt, hd]
        have hf := point_fits s k
        rw [hd] at hf
        clear hd
        have hg := begins_three s k
        have HF : Hid (Fits (point s k) (atB s k) (atB s (k + 1)) (atB s (k + 2)) (r, n)) := hf
        have HG : Hid (begins (s.extract k s.size) ⟨#[239, 191, 189]⟩ = decide (atB s k = 239 ∧ atB s (k + 1) = 191 ∧ atB s (k + 2) = 189)) := hg
        clear hf hg
        by_cases hz : atB s k = 0
        · have hp : point s k = 1 := by simp [point, pt, hz]
          have hr : r = 0 := ((HF.out.2 (by omega)).2.1).2 hz
          subst hr
          have HR : Hid (chk s = (k, 14)) := by have h1 := HC.out; rw [chkF_zero s b k hlt hb hz] at h1; exact h1
          clear hz hp
          go_wp2
          go_ret2
          exact ⟨by rw [HR.out]; rfl, .inr ⟨_, rfl⟩⟩
        · by_cases hp : point s k = 0
          · obtain ⟨h1, h2, _, h4⟩ := HF.out.1 hp
            have hr : r = 65533 := h1
            subst hr
            have hg : begins (s.extract k s.size) ⟨#[239, 191, 189]⟩ = false := by rw [HG.out]; exact decide_eq_false h4
            have HR : Hid (chk s = (k, 13)) := by have h1 := HC.out; rw [chkF_utf s b k hlt hb hz hp] at h1; exact h1
            clear hz hp h1 h2 h4
            go_wp2_with (go_at_call 35; refine (pre_any _ _ _).mono ?_; rintro e w' ⟨rfl, rfl⟩)
            go_ret2
            exact ⟨by rw [HR.out]; rfl, .inr ⟨_, rfl⟩⟩
          · obtain ⟨h1, h2, h3⟩ := HF.out.2 hp
            have hn : n = point s k := h1
            have hr0 : ¬ r = 0 := fun h => hz (h2.1 h)
            obtain ⟨b', e1, e2⟩ := chkF_step s b k hlt hb hz hp
            have HS : Hid (chk s = chkF s b' (k + n) ∧ s.size ≤ k + n + b' ∧ 1 ≤ n) := by rw [hn]; exact ⟨HC.out.trans e1, e2, by omega⟩
            by_cases hr : r = 65533
            · have hg : begins (s.extract k s.size) ⟨#[239, 191, 189]⟩ = true := by rw [HG.out]; exact decide_eq_true (h3 hr)
              clear h1 h2 h3 hn hr0 e1 e2 hz hp
              subst hr
              go_wp2_with (go_at_call 35; refine (pre_any _ _ _).mono ?_; rintro e w' ⟨rfl, rfl⟩)
              go_roundw
              case rel => exact ⟨k + n, b', rfl, HS.out.1, HS.out.2.1⟩
              case measure => have := HS.out.2.2; simp; omega
            · have q0 : ((r : Int) == 0) = false := by simp; omega
              have q1 : ((r : Int) == 65533) = false := by simp; omega
              clear h1 h2 h3 hn hr0 e1 e2 hz hp hr
              go_wp2_with (go_at_call 35; refine (pre_any _ _ _).mono ?_; rintro e w' ⟨rfl, rfl⟩)
              go_roundw
              case rel => exact ⟨k + n, b', rfl, HS.out.1, HS.out.2.1⟩
              case measure => have := HS.out.2.2; simp; omega
      · have hnx : ∀ ty, (Instr.next (.pointer (some ⟨w.heap.size, 0, none⟩)) true ty).run Try.prog (w.iter s k) = _ := fun ty => run_next_end w s k ty hlt
        have HR : Hid (chk s = (0, 0)) := by have h1 := HC.out; rw [chkF_end s b k hlt] at h1; exact h1
        go_wp2
        go_ret2
        exact ⟨by rw [HR.out]; rfl, .inr ⟨_, rfl⟩⟩

theorem below_iter (w : World) (s : ByteArray) (k : Nat) : Below w.heap.size w (w.iter s k) := (Below.refl _ _).alloc (Nat.le_refl _) _
theorem frozen_iter (w : World) (s : ByteArray) (k : Nat) (a : Addr) : (w.iter s k).frozen? a = w.frozen? a := by
  by_cases h : a.block = w.heap.size
  · have e1 : (w.iter s k).heap[a.block]? = some (.stringIter s k) := by rw [h]; exact World.iter_heap w s k
    have e2 : w.heap[a.block]? = none := by rw [h]; simp
    simp [World.frozen?, e1, e2]
  · by_cases h' : a.block < w.heap.size
    · exact (below_iter w s k).frozen h'
    · have e1 : (w.iter s k).heap[a.block]? = none := by
        show (w.heap.push _)[a.block]? = none
        rw [Array.getElem?_eq_none]
        simp; omega
      have e2 : w.heap[a.block]? = none := by rw [Array.getElem?_eq_none]; omega
      simp [World.frozen?, e1, e2]
theorem grown_iter (w : World) (s : ByteArray) (k : Nat) : Grown w (w.iter s k) :=
  ⟨World.keptBut_alloc _ _ _, frozen_iter w s k, (below_iter w s k).size⟩

theorem chk_any (s : ByteArray) (w : World) :
    Calls Try.prog 60 #[.string s] w fun e w' => e = .returned (.tuple #[.int .i64 (chk s).1, .int .i64 (chk s).2]) ∧ Below w.heap.size w w' ∧ Grown w w' := by
  refine (chk_world s w).mono ?_
  rintro e w' ⟨rfl, rfl | ⟨k, rfl⟩⟩
  · exact ⟨rfl, Below.refl _ _, Grown.refl _⟩
  · exact ⟨rfl, below_iter _ _ _, grown_iter _ _ _⟩
end Go.Proofs.Ytepjcfhbbcaldaa
namespace Go.Proofs.Ytepjcfhbbcaldaa
open Go Go.RowKit
set_option linter.unusedSimpArgs false
set_option linter.unusedVariables false
/-- Is it a text? -/
def txt (s : ByteArray) : Bool := ((chk s).2 : Int) == 0
theorem isEmpty_size (s : ByteArray) : (!s.toList.isEmpty) = (s.size != 0) := by
  rw [Lib.toList_data]
  obtain ⟨⟨l⟩⟩ := s
  cases l <;> simp [ByteArray.size]
theorem txt_size {s : ByteArray} (h : txt s = true) : s.size ≤ 65535 := by
  unfold txt chk at h
  by_cases h1 : 65535 < s.size
  · simp [h1] at h
  · omega
end Go.Proofs.Ytepjcfhbbcaldaa
namespace Go.Proofs.Ytepjcfhbbcaldaa
open Go Go.RowKit
set_option linter.unusedSimpArgs false
set_option linter.unusedVariables false

/-- The levels from a place on, the first of which began earlier. -/
def lvs (s : ByteArray) : Nat → Nat → Nat → List ByteArray
  | 0, f, _ => [s.extract f s.size]
  | b + 1, f, i => if i < s.size then (if atB s i = 47 then s.extract f i :: lvs s b (i + 1) (i + 1) else lvs s b f (i + 1)) else [s.extract f s.size]
def levels (s : ByteArray) : List ByteArray := lvs s s.size 0 0
theorem lvs_end (s : ByteArray) (b f i : Nat) (h : ¬ i < s.size) : lvs s b f i = [s.extract f s.size] := by
  cases b with
  | zero => rfl
  | succ b => simp [lvs, h]
theorem lvs_cut (s : ByteArray) (b f i : Nat) (h : i < s.size) (hb : s.size ≤ i + b) (hc : atB s i = 47) : ∃ b', lvs s b f i = s.extract f i :: lvs s b' (i + 1) (i + 1) ∧ s.size ≤ i + 1 + b' := by
  cases b with
  | zero => omega
  | succ b => exact ⟨b, by simp [lvs, h, hc], by omega⟩
theorem lvs_on (s : ByteArray) (b f i : Nat) (h : i < s.size) (hb : s.size ≤ i + b) (hc : ¬ atB s i = 47) : ∃ b', lvs s b f i = lvs s b' f (i + 1) ∧ s.size ≤ i + 1 + b' := by
  cases b with
  | zero => omega
  | succ b => exact ⟨b, by simp [lvs, h, hc], by omega⟩


end Go.Proofs.Ytepjcfhbbcaldaa
