import Derived.Test.YtmfbkfgggdkfmaaGreatDoorFrh
import Derived.Test.YtmfbkfgggdkfmaaGreatDoorFri
namespace Go.Proofs.YtmfbkfgggdkfmaaGreatDoor
open Go Go.RowKit
open Pkt (Pk Cn Sl In By Is Ss As pkCells Gd KindsAt Small)
set_option linter.unusedSimpArgs false
set_option linter.unusedVariables false

/-- All but some blocks is as it was. -/
structure Ch (S : Nat → Prop) (w w' : World) : Prop where
  os : w'.os = w.os
  tape : w'.tape = w.tape
  output : w'.output = w.output
  size : w.heap.size ≤ w'.heap.size
  block : ∀ k, k < w.heap.size → ¬ S k → w'.heap[k]? = w.heap[k]?
theorem Ch.refl (S : Nat → Prop) (w : World) : Ch S w w := ⟨rfl, rfl, rfl, Nat.le_refl _, fun _ _ _ => rfl⟩
theorem Ch.trans {S S' : Nat → Prop} {a b c : World} (h : Ch S a b) (k : Ch S' b c) (hs : ∀ j, j < a.heap.size → S' j → S j) : Ch S a c :=
  ⟨k.os.trans h.os, k.tape.trans h.tape, k.output.trans h.output, Nat.le_trans h.size k.size, fun j hj hn => (k.block j (by have := h.size; omega) (fun q => hn (hs j hj q))).trans (h.block j hj hn)⟩
theorem Ch.mono {S S' : Nat → Prop} {a b : World} (h : Ch S a b) (hs : ∀ j, j < a.heap.size → S j → S' j) : Ch S' a b := (Ch.refl S' a).trans h hs
theorem Below.ch {S : Nat → Prop} {a b : World} (h : Below a.heap.size a b) : Ch S a b := ⟨h.os, h.tape, h.output, h.size, fun k hk _ => h.block k hk⟩
theorem Kq.ch {fb : Nat} {row : Option Nat} {a b : World} (h : Kq fb row a b) : Ch (fun k => k = fb ∨ row = some k) a b := ⟨h.os, h.tape, h.output, h.size, fun k hk hn => h.block k hk (fun e => hn (.inl e)) (fun e => hn (.inr e))⟩
theorem ch_set {w : World} (hb i : Nat) (v : Value) : Ch (fun k => k = hb) w (w.setCell ⟨hb, i, none⟩ v) := ⟨rfl, rfl, rfl, by simp [World.setCell], fun k hk hn => Below.heap_setCell _ _ _ _ hn⟩
theorem ch_grown {w w' : World} {r : Option Nat} (h : w.grownBy w' r) : Ch (fun k => r = some k) w w' := ⟨h.os, h.tape, h.output, h.size, fun k hk hn => h.block k hk (fun e => hn e.symm)⟩

/-- Packets that were heard. -/
def Ps (w : World) (no : Nat → Prop) : List Pk → List (Pk × Cn) → Prop
  | [], [] => True
  | q :: qs, x :: L => (Alike q x.1 ∧ In w q x.2 ∧ ∀ b, Uses q b → ¬ no b) ∧ Ps w no qs L
  | _, _ => False
theorem Ps.len {w : World} {no : Nat → Prop} : ∀ {qs : List Pk} {L : List (Pk × Cn)}, Ps w no qs L → qs.length = L.length
  | [], [], _ => rfl
  | q :: qs, x :: L, h => by simp [Ps.len h.2]
  | [], _ :: _, h => h.elim
  | _ :: _, [], h => h.elim
theorem Ps.mono {w w' : World} {no no' : Nat → Prop} (hk : ∀ b, b < w.heap.size → ¬ no b → w'.heap[b]? = w.heap[b]?) (hn : ∀ b, b < w.heap.size → no' b → no b) : ∀ {qs : List Pk} {L : List (Pk × Cn)}, Ps w no qs L → Ps w' no' qs L
  | [], [], _ => trivial
  | q :: qs, x :: L, h => ⟨⟨h.1.1, In.congr h.1.2.1 (fun b hb => hk b (In.lt h.1.2.1 hb) (h.1.2.2 b hb)), fun b hb q => h.1.2.2 b hb (hn b (In.lt h.1.2.1 hb) q)⟩, Ps.mono hk hn h.2⟩
  | [], _ :: _, h => h.elim
  | _ :: _, [], h => h.elim
theorem Ps.at {w : World} {no : Nat → Prop} : ∀ {qs : List Pk} {L : List (Pk × Cn)}, Ps w no qs L → ∀ (i : Nat) q x, qs[i]? = some q → L[i]? = some x → Alike q x.1 ∧ In w q x.2
  | [], [], _, i, q, x, e, _ => by simp at e
  | q' :: qs, x' :: L, h, 0, q, x, e, e' => by simp at e e'; subst e e'; exact ⟨h.1.1, h.1.2.1⟩
  | q' :: qs, x' :: L, h, i + 1, q, x, e, e' => Ps.at h.2 i q x (by simpa using e) (by simpa using e')
  | [], _ :: _, h, _, _, _, _, _ => h.elim
  | _ :: _, [], h, _, _, _, _, _ => h.elim
/-- A row, later: the same block or a new one. -/
def Nw (n0 : Nat) (r r' : Option Nat) : Prop := r' = r ∨ r' = none ∨ ∃ k, r' = some k ∧ n0 ≤ k
theorem Nw.old {n0 : Nat} {r r' : Option Nat} (h : Nw n0 r r') {b : Nat} (hb : b < n0) (e : r' = some b) : r = some b := by
  rcases h with rfl | rfl | ⟨k, rfl, hk⟩
  · exact e
  · cases e
  · cases e; omega
theorem Nw.trans {n0 n1 : Nat} {r r' r'' : Option Nat} (h : Nw n0 r r') (h' : Nw n1 r' r'') (hn : n0 ≤ n1) : Nw n0 r r'' := by
  rcases h' with rfl | rfl | ⟨k, rfl, hk⟩
  · exact h
  · exact .inr (.inl rfl)
  · exact .inr (.inr ⟨k, rfl, by omega⟩)
end Go.Proofs.YtmfbkfgggdkfmaaGreatDoor
namespace Go.Proofs.YtmfbkfgggdkfmaaGreatDoor
open Go Go.RowKit
open Pkt (Pk Cn Sl In By Is Ss As pkCells Gd KindsAt Small)
set_option linter.unusedSimpArgs false
set_option linter.unusedVariables false

/-- How a frame stands when it has answered. -/
def FE (w : World) (fb : Nat) (most : Int) (B : Nat) (rf : Option Nat) (P : Nat) (z : Nat → Int) (H : Nat) (la le : Int) : Option DecR → Prop
  | some (.fault x) => FD w fb most (wrap64 (P + x.1)) x.2 ∧ la = wrap64 (P + x.1) ∧ le = x.2 ∧ x.2 ≠ 0 ∧ rf = none
  | some _ => FS w fb most B rf P z H ∧ la = 0 ∧ le = 0
  | none => FS w fb most B rf P z H
theorem blk_ne {w : World} {g g' : Nat} {c c' : Array Value} {t t' : TypeId} {f f' : Nat × Nat} (h : w.heap[g]? = some (.cells c t f)) (h' : w.heap[g']? = some (.cells c' t' f')) (ht : t ≠ t') : g ≠ g' := by
  intro e
  subst e
  rw [h] at h'
  simp at h'
  exact ht h'.2.1
theorem own_blk {w : World} {B e s n : Nat} {v : Value} {xs : List Value} (h : w.ownsRow B e s v n xs) {k : Nat} (hk : v.ownBlock = some k) : ∃ c, w.heap[k]? = some (.cells c e (0, 0)) := by
  rcases h.2 with ⟨r, _⟩ | ⟨g, cap, cur, r, _, hg, _⟩
  · rw [r] at hk; cases hk
  · rw [r] at hk
    have e' : g = k := by simpa [Value.ownBlock] using hk
    subst e'
    exact ⟨_, hg⟩
theorem FS.blk {w : World} {fb : Nat} {most : Int} {B : Nat} {rf : Option Nat} {P : Nat} {z : Nat → Int} {H : Nat} (h : FS w fb most B rf P z H) : (∃ c, w.heap[fb]? = some (.cells c 63 (0, 0))) ∧ ∀ k, rf = some k → B ≤ k ∧ ∃ c, w.heap[k]? = some (.cells c 5 (0, 0)) := by
  obtain ⟨v, n, z0, d, gone, fa, hf, hr, rest⟩ := h
  exact ⟨⟨_, hf.at_⟩, fun k e => ⟨(hf.own.lt k (hr ▸ e)).1, own_blk hf.own (hr ▸ e)⟩⟩
theorem FE.keep {w w' : World} {fb : Nat} {most : Int} {B : Nat} {rf : Option Nat} {P : Nat} {z : Nat → Int} {H : Nat} {la le : Int} {R : Option DecR} (h : FE w fb most B rf P z H la le R) (h1 : w'.heap[fb]? = w.heap[fb]?) (h2 : ∀ k c, rf = some k → w.heap[k]? = some (.cells c 5 (0, 0)) → w'.heap[k]? = w.heap[k]?) : FE w' fb most B rf P z H la le R := by
  have hs : FS w fb most B rf P z H → FS w' fb most B rf P z H := fun q => q.keep h1 fun k e => by obtain ⟨c, hc⟩ := (q.blk.2 k e).2; exact h2 k c e hc
  cases R with
  | none => exact hs h
  | some D =>
    cases D with
    | fault x => exact ⟨h.1.keep h1, h.2⟩
    | more => exact ⟨hs h.1, h.2⟩
    | ok p c k => exact ⟨hs h.1, h.2⟩
theorem FE.blk {w : World} {fb : Nat} {most : Int} {B : Nat} {rf : Option Nat} {P : Nat} {z : Nat → Int} {H : Nat} {la le : Int} {R : Option DecR} (h : FE w fb most B rf P z H la le R) : ∃ c, w.heap[fb]? = some (.cells c 63 (0, 0)) := by
  cases R with
  | none => exact (FS.blk h).1
  | some D =>
    cases D with
    | fault x => obtain ⟨g, hg⟩ := h.1; exact ⟨_, hg⟩
    | more => exact h.1.blk.1
    | ok p c k => exact h.1.blk.1
end Go.Proofs.YtmfbkfgggdkfmaaGreatDoor
