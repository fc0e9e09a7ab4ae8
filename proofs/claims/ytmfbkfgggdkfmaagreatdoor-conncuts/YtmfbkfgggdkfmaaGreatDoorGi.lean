import Derived.Test.YtmfbkfgggdkfmaaGreatDoorGg
import Derived.Test.YtmfbkfgggdkfmaaGreatDoorFdz
namespace Go.Proofs.YtmfbkfgggdkfmaaGreatDoor
open Go Go.RowKit
open Pkt (Pk Cn Sl In By Is Ss As pkCells Gd)
set_option linter.unusedSimpArgs false
set_option linter.unusedVariables false

theorem run_append_empty {P : Program} {w : World} (base : Nat) (t ty e : TypeId) (i : TypeInfo) (size : Nat) (ht : P.underlying t = some (.slice e)) (hi : P.info? e = some i)
    (v : Value) (n : Nat) (xs : List Value) (hown : w.ownsRow base e size v n xs) (hv : v ≠ .slice none 0 0) (a : Option Addr) (c : Nat) :
    (Builtin.append_ #[t, t] ty #[v, .slice a 0 c]).run P w = .ok v w := by
  rcases hown.2 with ⟨rfl, rfl⟩ | ⟨g, cap, cur, rfl, _, _, hnc, _⟩
  · exact absurd rfl hv
  · cases a with
    | none => simp [Builtin.append_, run_underlying ht, sizeOf, typeInfo, hi, Builtin.lenOf, Builtin.firstCells, hnc, storeCells]
    | some a =>
      have hf := run_firstCells_some (P := P) w i.size 0 a 0 c [] (by simp) (by intro j v h; simp at h)
      simp [Builtin.append_, run_underlying ht, sizeOf, typeInfo, hi, Builtin.lenOf, hf, hnc, storeCells]

/-- A row that is laid on, since a world. -/
structure Lay (B : Nat) (v0 : Value) (W w : World) (v : Value) (n : Nat) (xs : List Value) : Prop where
  own : w.ownsRow B 5 1 v n xs
  ne : v ≠ .slice none 0 0
  gb : W.grownBy w v0.ownBlock
  at_ : ∀ k, v.ownBlock = some k → v0.ownBlock = some k ∨ W.heap.size ≤ k
theorem Lay.start {B : Nat} {v : Value} {W : World} {n : Nat} {xs : List Value} (h : W.ownsRow B 5 1 v n xs) (hv : v ≠ .slice none 0 0) : Lay B v W W v n xs := ⟨h, hv, World.grownBy.refl _ _, fun k e => .inl e⟩
theorem Lay.add {B : Nat} {v0 v v' : Value} {W w w' : World} {n m : Nat} {xs ys : List Value} (h : Lay B v0 W w v n xs) (ha : Adds B v w w' (.returned v') m ys) : Lay B v0 W w' v' m ys := by
  obtain ⟨v2, e, o, ne, g, a⟩ := ha
  cases e
  exact ⟨o, ne, grown_on h.gb h.at_ g, own_on h.gb.size h.at_ a⟩
theorem Lay.below {B : Nat} {v0 v : Value} {W w w' : World} {n : Nat} {xs : List Value} (h : Lay B v0 W w v n xs) (hb : Below w.heap.size w w') : Lay B v0 W w' v n xs :=
  ⟨own_below h.own hb, h.ne, grown_on (v1 := v0) h.gb (fun k e => .inl e) (below_gb hb), h.at_⟩
theorem Lay.block {B : Nat} {v0 v : Value} {W w : World} {n : Nat} {xs : List Value} (h : Lay B v0 W w v n xs) {g : Nat} {o : Obj} (hg : W.heap[g]? = some o) (hv : v0.ownBlock ≠ some g) : w.heap[g]? = some o := gb_block h.gb hg hv
theorem Lay.size {B : Nat} {v0 v : Value} {W w : World} {n : Nat} {xs : List Value} (h : Lay B v0 W w v n xs) : W.heap.size ≤ w.heap.size := h.gb.size
theorem Lay.old {B : Nat} {v0 v : Value} {W w : World} {n : Nat} {xs : List Value} (h : Lay B v0 W w v n xs) (hB : B ≤ W.heap.size) (h0 : ∀ k, v0.ownBlock = some k → B ≤ k) : Below B W w := gb_below2 h.gb hB h0
theorem Lay.done {B : Nat} {v0 v : Value} {w W w' : World} {n : Nat} {xs : List Value} (hb : Below w.heap.size w W) (h : Lay B v0 W w' v n xs) : Adds B v0 w w' (.returned v) n xs :=
  ⟨v, rfl, h.own, h.ne, grown_on (v1 := v0) (below_gb hb) (fun k e => .inl e) h.gb, fun k e => (h.at_ k e).elim .inl (fun q => .inr (Nat.le_trans hb.size q))⟩

end Go.Proofs.YtmfbkfgggdkfmaaGreatDoor
