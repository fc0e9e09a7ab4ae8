import Derived.Test.YtmihpmmkkklpfaaGreatDoorProg
import Derived.Test.YtmihpmmkkklpfaaGreatDoorNa
import Derived.DeepKeys4
import Derived.WalkKit
import Derived.WalkSpells
import Derived.WalkLawsBesides
import Derived.Lib.Strings
namespace Go.Proofs.YtmihpmmkkklpfaaGreatDoor
open Go Go.RowKit
set_option linter.unusedSimpArgs false
set_option linter.unusedVariables false

/-- All but some blocks is as it was. -/
structure Ch (S : Nat → Prop) (w w' : World) : Prop where
  os : w'.os = w.os
  tape : w'.tape = w.tape
  output : w'.output = w.output
  size : w.heap.size ≤ w'.heap.size
  block : ∀ k, k < w.heap.size → ¬ S k → w'.heap[k]? = w.heap[k]?
theorem Ch.refl (S : Nat → Prop) (w : World) : Ch S w w := ⟨rfl, rfl, rfl, Nat.le_refl _, fun _ _ _ => rfl⟩
theorem Ch.trans {S S' : Nat → Prop} {a b c : World} (h : Ch S a b) (k : Ch S' b c) (hs : ∀ j, j < a.heap.size → S' j → S j) : Ch S a c :=
  ⟨k.os.trans h.os, k.tape.trans h.tape, k.output.trans h.output, Nat.le_trans h.size k.size, fun j hj hn => (k.block j (by have := h.size; omega) (fun q => hn (hs j hj q))).trans (h.block j hj hn)⟩
theorem Ch.mono {S S' : Nat → Prop} {a b : World} (h : Ch S a b) (hs : ∀ j, j < a.heap.size → S j → S' j) : Ch S' a b := (Ch.refl S' a).trans h hs
theorem Below.ch {S : Nat → Prop} {a b : World} (h : Below a.heap.size a b) : Ch S a b := ⟨h.os, h.tape, h.output, h.size, fun k hk _ => h.block k hk⟩
theorem ch_set {w : World} (hb i : Nat) (v : Value) : Ch (fun k => k = hb) w (w.setCell ⟨hb, i, none⟩ v) := ⟨rfl, rfl, rfl, by simp [World.setCell], fun k hk hn => Below.heap_setCell _ _ _ _ hn⟩
theorem ch_grown {w w' : World} {r : Option Nat} (h : w.grownBy w' r) : Ch (fun k => r = some k) w w' := ⟨h.os, h.tape, h.output, h.size, fun k hk hn => h.block k hk (fun e => hn e.symm)⟩
theorem ch_alloc (S : Nat → Prop) (w : World) (o : Obj) : Ch S w (w.alloc o) := (ch_grown (World.grownBy_alloc w o none)).mono (fun j hj q => by cases q)

theorem box_cells {w : World} {g t : Nat} {cs : Array Value} {fz : Nat × Nat} (h : w.heap[g]? = some (.cells cs t fz)) (k : Nat) (v : Value) (hk : cs[k]? = some v) : w.cell? ⟨g, k, none⟩ = some v := by
  simp [World.cell?, h, hk]
theorem box_frozen {w : World} {g t : Nat} {cs : Array Value} (h : w.heap[g]? = some (.cells cs t (0, 0))) (k : Nat) : w.frozen? ⟨g, k, none⟩ = false := by
  simp [World.frozen?, h]
theorem heap_set {w : World} {g t k : Nat} {cs : Array Value} {fz : Nat × Nat} (h : w.heap[g]? = some (.cells cs t fz)) (v : Value) : (w.setCell ⟨g, k, none⟩ v).heap[g]? = some (.cells (cs.setIfInBounds k v) t fz) := by
  simp [World.setCell, Array.getElem?_modify, h]
theorem heap_set_ne {w : World} {g j k : Nat} (v : Value) (hn : j ≠ g) : (w.setCell ⟨g, k, none⟩ v).heap[j]? = w.heap[j]? := Below.heap_setCell _ _ _ _ hn
def pt (b : Nat) : Value := .pointer (some ⟨b, 0, none⟩)
theorem ch_drew (S : Nat → Prop) (w : World) : Ch S w w.drew := Below.ch (Below.drew (Below.refl _ _))
theorem Ch.then {S : Nat → Prop} {a b c : World} (h : Ch S a b) (k : Ch S b c) : Ch S a c := h.trans k (fun _ _ q => q)
theorem ch_turned {w w' : World} {b : Nat} (h : w.mapTurned w' b) : Ch (fun j => j = b) w w' := (ch_grown h.grown).mono (fun j _ q => by simpa using q.symm)
def hv (v : Value) : Option (DataW Value × List MemPlace) := some (.held v, [])

/-! ### Maps of numbers -/
def okI (k : Int) : Prop := (Lit.int .i64 k).wf = true
theorem okI_nat (k : Nat) (h : k < 4611686018427387904) : okI (k : Int) := by
  simp [okI, Lit.wf, IntKind.bits, IntKind.signed, IntKind.wrap, IntKind.min, IntKind.max]
  omega
def ki (k : Int) : Lit := .int .i64 k
theorem law3 : Maps.Keyed Tryz.prog 3 := Maps.int_keyed Tryz.underlying3
theorem keyOf_ki {k : Int} (h : okI k) : keyOf Tryz.prog 3 (.int .i64 k) = some (ki k) := Maps.keyOf_int_mk Tryz.underlying3 h
theorem ki_inj {a b : Int} (h : ki a = ki b) : a = b := by simpa [ki] using h
def setF (f : Int → Option Value) (k : Int) (v : Option Value) : Int → Option Value := fun j => if j = k then v else f j
def szF (f : Int → Option Value) (k : Int) (n : Nat) : Nat := if (f k).isSome then n else n + 1
/-- A map of numbers, told number by number. -/
def MI (w : World) (mv : Value) (n : Nat) (f : Int → Option Value) : Prop :=
  (mv = .map none ∧ n = 0 ∧ ∀ k, okI k → f k = none) ∨ ∃ mb D, mv = .map (some mb) ∧ w.ownsMap Tryz.prog 3 hv mb n D ∧ Maps.size D = n ∧ ∀ k, okI k → Maps.has D (ki k) = (f k).isSome ∧ ∀ v, f k = some v → ∀ z, D.atKey (ki k) z = .held v
theorem MI.keep {w w' : World} {mv : Value} {n : Nat} {f : Int → Option Value} (h : MI w mv n f) (hs : ∀ b, mv = .map (some b) → w'.heap[b]? = w.heap[b]?) : MI w' mv n f := by
  rcases h with h | ⟨mb, D, h1, ⟨es, clock, hb, F, hs', hD⟩, h3, h4⟩
  · exact .inl h
  · exact .inr ⟨mb, D, h1, ⟨es, clock, (hs mb h1).trans hb, F, hs', hD⟩, h3, h4⟩
theorem MI.block {w : World} {mv : Value} {n : Nat} {f : Int → Option Value} (h : MI w mv n f) {b : Nat} (hb : mv = .map (some b)) : ∃ es clock, w.heap[b]? = some (.map es clock) := by
  rcases h with ⟨h, _⟩ | ⟨mb, D, h1, ⟨es, clock, hm, _⟩, _⟩
  · rw [h] at hb; cases hb
  · rw [h1] at hb
    cases hb
    exact ⟨es, clock, hm⟩
theorem MI.lt {w : World} {mv : Value} {n : Nat} {f : Int → Option Value} (h : MI w mv n f) {b : Nat} (hb : mv = .map (some b)) : b < w.heap.size := by
  obtain ⟨es, c, h⟩ := h.block hb
  exact (Array.getElem?_eq_some_iff.1 h).1
theorem MI.mk {w : World} {mv : Value} {n : Nat} {f : Int → Option Value} (h : MI w mv n f) : mv = .map none ∨ ∃ mb, mv = .map (some mb) := by
  rcases h with ⟨h, _⟩ | ⟨mb, D, h1, _⟩
  · exact .inl h
  · exact .inr ⟨mb, h1⟩
theorem MI.made (w : World) : MI (w.alloc (.map #[] 0)) (.map (some w.heap.size)) 0 (fun _ => none) :=
  .inr ⟨w.heap.size, .map [], rfl, World.ownsMap_made w Tryz.prog 3 hv, rfl, fun k _ => ⟨rfl, fun v q => by cases q⟩⟩
theorem MI.nil (w : World) : MI w (.map none) 0 (fun _ => none) := .inl ⟨rfl, rfl, fun _ _ => rfl⟩
theorem MI.congr {w : World} {mv : Value} {n : Nat} {f g : Int → Option Value} (h : MI w mv n f) (hg : ∀ k, okI k → g k = f k) : MI w mv n g := by
  rcases h with ⟨h, h1, h2⟩ | ⟨mb, D, h1, h2, h3, h4⟩
  · exact .inl ⟨h, h1, fun k hk => (hg k hk).trans (h2 k hk)⟩
  · exact .inr ⟨mb, D, h1, h2, h3, fun k hk => by rw [hg k hk]; exact h4 k hk⟩
theorem MI.look {w : World} {mv : Value} {n : Nat} {f : Int → Option Value} (h : MI w mv n f) {t e : TypeId} (ht : Tryz.prog.underlying t = some (.map 3 e)) {z : Value} (hz : ∀ w, (zeroValue e).run Tryz.prog w = .ok z w) {k : Int} (hk : okI k) :
    (Instr.lookup t mv (.int .i64 k) false).run Tryz.prog w = .ok ((f k).getD z) w := by
  rcases h with ⟨rfl, h1, h2⟩ | ⟨mb, D, rfl, h2, h3, h4⟩
  · rw [h2 k hk]
    exact Maps.look_nil false law3 ht (hz w) (keyOf_ki hk)
  · obtain ⟨v, ps, hrun, hv'⟩ := h2.lookup law3 ht (hz w) (zd := .held z) (zp := []) rfl (keyOf_ki hk)
    rw [hrun]
    cases e : f k with
    | none =>
      rw [Maps.atKey_of_not_has (by rw [(h4 k hk).1, e]; rfl)] at hv'
      simp [hv] at hv'
      rw [hv'.1]
      rfl
    | some x =>
      rw [(h4 k hk).2 x e] at hv'
      simp [hv] at hv'
      rw [hv'.1]
      rfl
theorem MI.look2 {w : World} {mv : Value} {n : Nat} {f : Int → Option Value} (h : MI w mv n f) {t e : TypeId} (ht : Tryz.prog.underlying t = some (.map 3 e)) {z : Value} (hz : ∀ w, (zeroValue e).run Tryz.prog w = .ok z w) {k : Int} (hk : okI k) :
    (Instr.lookup t mv (.int .i64 k) true).run Tryz.prog w = .ok (.tuple #[(f k).getD z, .bool (f k).isSome]) w := by
  rcases h with ⟨rfl, h1, h2⟩ | ⟨mb, D, rfl, h2, h3, h4⟩
  · rw [h2 k hk]
    exact Maps.look_nil true law3 ht (hz w) (keyOf_ki hk)
  · obtain ⟨v, ps, hrun, hv'⟩ := h2.look_ok law3 ht (hz w) (zd := .held z) (zp := []) rfl (keyOf_ki hk)
    rw [hrun, (h4 k hk).1]
    cases e : f k with
    | none =>
      rw [Maps.atKey_of_not_has (by rw [(h4 k hk).1, e]; rfl)] at hv'
      simp [hv] at hv'
      rw [hv'.1]
      rfl
    | some x =>
      rw [(h4 k hk).2 x e] at hv'
      simp [hv] at hv'
      rw [hv'.1]
      rfl
theorem MI.len {w : World} {mv : Value} {n : Nat} {f : Int → Option Value} (h : MI w mv n f) {t e : TypeId} (ht : Tryz.prog.underlying t = some (.map 3 e)) (ty : TypeId) : (Builtin.len_ #[t] ty #[mv]).run Tryz.prog w = .ok (.int .i64 n) w := by
  rcases h with ⟨rfl, rfl, h2⟩ | ⟨mb, D, rfl, h2, h3, h4⟩
  · exact Maps.len_nil ht ty
  · rw [h2.len ht ty, h3]
theorem MI.put {w : World} {mb : Nat} {n : Nat} {f : Int → Option Value} (h : MI w (.map (some mb)) n f) {t e : TypeId} (ht : Tryz.prog.underlying t = some (.map 3 e)) {k : Int} (hk : okI k) (v : Value) (hn : n < maxLen) :
    ∃ w', (Instr.mapUpdate t (.map (some mb)) (.int .i64 k) v).run Tryz.prog w = .ok () w' ∧ MI w' (.map (some mb)) (szF f k n) (setF f k (some v)) ∧ Ch (fun j => j = mb) w w' := by
  rcases h with ⟨h, _⟩ | ⟨mb', D, h1, h2, h3, h4⟩
  · cases h
  · cases h1
    obtain ⟨w', hrun, ho, htd⟩ := h2.store law3 ht hn (keyOf_ki hk) (val := v) (d := .held v) (ps := []) rfl
    have hD := h2.tidy law3
    have hsz : Maps.size (D.put (ki k) (.held v)) = szF f k n := by
      rw [Maps.size_put hD, h3, (h4 k hk).1]
      rfl
    refine ⟨w', hrun, .inr ⟨mb, D.put (ki k) (.held v), rfl, ?_, hsz, fun k' hk' => ?_⟩, ch_turned htd⟩
    · obtain ⟨es, clock, hb, F, hs, hd⟩ := ho
      refine ⟨es, clock, hb, F, ?_, hd⟩
      rw [← hsz, hd]
      simp [Maps.size, length_sorted]
    · by_cases q : k' = k
      · subst q
        refine ⟨by rw [Maps.has_put_same hD.isMap (law3.key (keyOf_ki hk))]; simp [setF], fun x hx z => ?_⟩
        simp [setF] at hx
        rw [Maps.atKey_put_same hD.isMap (law3.key (keyOf_ki hk)), hx]
      · have hne : ki k' ≠ ki k := fun r => q (ki_inj r)
        rw [Maps.has_put_other hne]
        refine ⟨by rw [(h4 k' hk').1]; simp [setF, q], fun x hx z => ?_⟩
        simp [setF, q] at hx
        rw [Maps.atKey_put_other hne, (h4 k' hk').2 x hx]
theorem MI.del {w : World} {mb : Nat} {n : Nat} {f : Int → Option Value} (h : MI w (.map (some mb)) n f) {t e : TypeId} (ht : Tryz.prog.underlying t = some (.map 3 e)) {k : Int} (hk : okI k) (ty : TypeId) :
    ∃ w', (Builtin.delete_ #[t, 3] ty #[.map (some mb), .int .i64 k]).run Tryz.prog w = .ok (.tuple #[]) w' ∧ MI w' (.map (some mb)) (n - (if (f k).isSome then 1 else 0)) (setF f k none) ∧ Ch (fun j => j = mb) w w' := by
  rcases h with ⟨h, _⟩ | ⟨mb', D, h1, h2, h3, h4⟩
  · cases h
  · cases h1
    obtain ⟨w', hrun, ho, htd⟩ := h2.drop law3 ht (keyOf_ki hk) ty
    have hD := h2.tidy law3
    have hsz : Maps.size (D.del (ki k)) = n - (if (f k).isSome then 1 else 0) := by
      have := Maps.size_del (k := ki k) hD
      rw [(h4 k hk).1, h3] at this
      omega
    refine ⟨w', hrun, .inr ⟨mb, D.del (ki k), rfl, ?_, hsz, fun k' hk' => ?_⟩, ch_turned htd⟩
    · obtain ⟨es, clock, hb, F, hs, hd⟩ := ho
      refine ⟨es, clock, hb, F, ?_, hd⟩
      rw [← hsz, hd]
      simp [Maps.size, length_sorted]
    · by_cases q : k' = k
      · subst q
        refine ⟨by rw [Maps.has_del_same]; simp [setF], fun x hx z => ?_⟩
        simp [setF] at hx
      · have hne : ki k' ≠ ki k := fun r => q (ki_inj r)
        rw [Maps.has_del_other hne]
        refine ⟨by rw [(h4 k' hk').1]; simp [setF, q], fun x hx z => ?_⟩
        simp [setF, q] at hx
        rw [Maps.atKey_del_other hne, (h4 k' hk').2 x hx]
theorem MI.zero {w : World} {mv : Value} {f : Int → Option Value} (h : MI w mv 0 f) {k : Int} (hk : okI k) : f k = none := by
  rcases h with ⟨_, _, h2⟩ | ⟨mb, D, rfl, h2, h3, h4⟩
  · exact h2 k hk
  · obtain ⟨es, rfl, _⟩ := h2.entries law3
    have : es = [] := List.length_eq_zero_iff.1 h3
    subst this
    have := (h4 k hk).1
    cases e : f k with
    | none => rfl
    | some x => rw [e] at this; cases this
end Go.Proofs.YtmihpmmkkklpfaaGreatDoor
