import Derived.Test.YtkjeneklkdekoaaGreatDoorBlq
import Derived.Test.YtkjeneklkdekoaaGreatDoorProg
import Derived.Test.YtkjeneklkdekoaaGreatDoorPt
import Derived.WalkKit
import Derived.WalkSpells
import Derived.WalkLawsBesides
namespace Go.Proofs.YtkjeneklkdekoaaGreatDoor
open Go Go.RowKit
set_option linter.unusedSimpArgs false
set_option linter.unusedVariables false

/-! ### A new book -/
theorem bo_start {w : World} {bb B : Nat} {cs : Array Value} (hat : BkAt w bb cs) (hd : Hd cs 0 0 0) (hr : ∀ i, i < 8 → cs[4 + i]? = some (.slice none 0 0)) (S : Nat → Prop) (hs : S bb) : Bo w w bb B S (fun _ _ => False) cs (fun _ => .slice none 0 0) (fun _ => []) 0 0 0 := by
  refine ⟨⟨⟨hat, hr, fun i hi => ⟨rfl, .inl ⟨rfl, rfl⟩⟩, fun i j _ _ _ k e => by cases e⟩, hd, Ch.refl _ _, hs, fun i hi k e => by cases e⟩, ⟨⟨fun g j q => q.elim⟩, PD.nil _ _, List.Pairwise.nil, rfl, fun i v vn e => by simp at e, fun i v vn _ e => by simp at e, fun i v e => by simp at e, fun _ _ q => q.elim, fun v hv => ?_⟩, ⟨rfl, rfl, rfl, rfl⟩, ⟨rfl, rfl, rfl⟩, fun u hu => (by cases hu), fun u hu => (by cases hu)⟩
  rcases hv with q | q | q <;> cases q
/-- The book since another world: what was not its own stays. -/
theorem Bo.rebase {w0 w : World} {bb B : Nat} {S : Nat → Prop} {D : Nat → Nat → Prop} {cs : Array Value} {rv : Nat → Value} {xs : Nat → List Value} {t deep seen : Int} (h : Bo w0 w bb B S D cs rv xs t deep seen) : Bo w w bb B (fun k => S k ∨ w0.heap.size ≤ k) D cs rv xs t deep seen :=
  ⟨h.bq.rebase, ⟨h.mi.dk, h.mi.pd, h.mi.ps, h.mi.wl, h.mi.wt, h.mi.rt, h.mi.fr, fun g j q => .inl (h.mi.dS g j q), fun v hv g e => .inl (h.mi.ins v hv g e)⟩, h.n4, h.len, h.i5, h.i6⟩
/-- More blocks may be the book's. -/
theorem Bo.more {w0 w : World} {bb B : Nat} {S S' : Nat → Prop} {D : Nat → Nat → Prop} {cs : Array Value} {rv : Nat → Value} {xs : Nat → List Value} {t deep seen : Int} (h : Bo w0 w bb B S D cs rv xs t deep seen) (hs : ∀ k, S k → S' k) : Bo w0 w bb B S' D cs rv xs t deep seen :=
  ⟨⟨h.bq.br, h.bq.hd, h.bq.ch.mono (fun j _ q => hs j q), hs _ h.bq.sb, fun i hi k e => (h.bq.ins i hi k e).imp (hs k) id⟩, ⟨h.mi.dk, h.mi.pd, h.mi.ps, h.mi.wl, h.mi.wt, h.mi.rt, h.mi.fr, fun g j q => (h.mi.dS g j q).imp (hs g) id, fun v hv g e => (h.mi.ins v hv g e).imp (hs g) id⟩, h.n4, h.len, h.i5, h.i6⟩
end Go.Proofs.YtkjeneklkdekoaaGreatDoor
namespace Go.Proofs.YtkjeneklkdekoaaGreatDoor
open Go Go.RowKit
set_option linter.unusedSimpArgs false
set_option linter.unusedVariables false

/-! ### Book.Bytes, and what it leaves alone -/
/-- The blocks that the book may write. -/
def Ob (bb : Nat) (rv : Nat → Value) (xs : Nat → List Value) (k : Nat) : Prop := k = bb ∨ (∃ i, i < 8 ∧ (rv i).ownBlock = some k) ∨ ∃ v ∈ xs 2, v.ownBlock = some k
theorem Bo.tight {w0 w : World} {bb B : Nat} {S : Nat → Prop} {D : Nat → Nat → Prop} {cs : Array Value} {rv : Nat → Value} {xs : Nat → List Value} {t deep seen : Int} (h : Bo w0 w bb B S D cs rv xs t deep seen) (T : Nat → Prop) (hT : ∀ g j, D g j → T g) : Bo w w bb B (fun k => Ob bb rv xs k ∨ T k) D cs rv xs t deep seen :=
  ⟨⟨h.bq.br, h.bq.hd, Ch.refl _ _, .inl (.inl rfl), fun i hi k e => .inl (.inl (.inr (.inl ⟨i, hi, e⟩)))⟩, ⟨h.mi.dk, h.mi.pd, h.mi.ps, h.mi.wl, h.mi.wt, h.mi.rt, h.mi.fr, fun g j q => .inl (.inr (hT g j q)), fun v hv g e => by
    rcases hv with q | q | q
    · exact .inl (.inl (.inr (.inr ⟨v, q, e⟩)))
    · cases q
    · cases q⟩, h.n4, h.len, h.i5, h.i6⟩
theorem Bo.loose {w0 w w' : World} {bb B : Nat} {S S' : Nat → Prop} {D : Nat → Nat → Prop} {cs : Array Value} {rv : Nat → Value} {xs : Nat → List Value} {t deep seen : Int} (h : Bo w w' bb B S' D cs rv xs t deep seen) (hc : Ch S w0 w) (hs : S bb) (h2 : ∀ k, S' k → S k ∨ w0.heap.size ≤ k) : Bo w0 w' bb B S D cs rv xs t deep seen :=
  have big : ∀ k, S' k ∨ w.heap.size ≤ k → S k ∨ w0.heap.size ≤ k := fun k q => by
    rcases q with q | q
    · exact h2 k q
    · exact .inr (Nat.le_trans hc.size q)
  ⟨⟨h.bq.br, h.bq.hd, Ch.trans hc h.bq.ch (fun j hj q => by rcases h2 j q with q | q; exact q; omega), hs, fun i hi k e => big k (h.bq.ins i hi k e)⟩, ⟨h.mi.dk, h.mi.pd, h.mi.ps, h.mi.wl, h.mi.wt, h.mi.rt, h.mi.fr, fun g j q => big g (h.mi.dS g j q), fun v hv g e => big g (h.mi.ins v hv g e)⟩, h.n4, h.len, h.i5, h.i6⟩
theorem book_step (bb B : Nat) (S : Nat → Prop) (D : Nat → Nat → Prop) (cs : Array Value) (rv : Nat → Value) (xs : Nat → List Value) (t seen : Nat) (va : Option Addr) (n vc : Nat) (L : List Value) (mark : Int) (w0 w : World)
    (h : Bo w0 w bb B S D cs rv xs t 0 seen) (hB : B ≤ w0.heap.size) (hl : (xs 0).length + 2 * (xs 2).length ≤ 700000) (ht : t ≤ 100000) (hsn : seen ≤ 100000) (ho : w.ownsRow B 5 1 (.slice va n vc) n L) (hb : ∀ u ∈ L, Bv u) (hn : n ≤ 900000)
    (hoff : ∀ g, (Value.slice va n vc).ownBlock = some g → ¬ Ob bb rv xs g ∧ (∀ j, ¬ D g j) ∧ (S g ∨ w0.heap.size ≤ g)) :
    Calls Tryz.prog 28 #[.pointer (some ⟨bb, 0, none⟩), .slice va n vc, .int .i64 mark] w fun e w' => e = .returned (.tuple #[]) ∧ ∃ D' cs' rv' xs', Bo w0 w' bb B S D' cs' rv' xs' (t + 1 : Nat) 0 (seen + 1 : Nat) ∧ (∀ g j, D g j → D' g j) ∧ (xs' 2).length ≤ (xs 2).length + 1 ∧ (xs' 0).length ≤ (xs 0).length + 2 * (xs 2).length + 2 ∧
      Ch (fun k => Ob bb rv xs k ∨ (Value.slice va n vc).ownBlock = some k ∨ ∃ j, D k j) w w' ∧ ∀ k, (Ob bb rv' xs' k ∨ ∃ j, D' k j) → (Ob bb rv xs k ∨ (Value.slice va n vc).ownBlock = some k ∨ ∃ j, D k j) ∨ w.heap.size ≤ k := by
  refine (book_bytes bb B _ D cs rv xs t seen va n vc L mark w w (h.tight (fun k => (Value.slice va n vc).ownBlock = some k ∨ ∃ j, D k j) (fun g j q => .inr ⟨j, q⟩)) (Nat.le_trans hB h.bq.ch.size) hl ht hsn ho hb hn (fun g e => (hoff g e).2.1) (fun u hu k e q => (hoff k q).1 (.inr (.inr ⟨u, hu, e⟩))) (fun g e => .inl (.inr (.inl e)))).mono ?_
  rintro e w' ⟨rfl, D', cs', rv', xs', hb', r1, r2, r3⟩
  refine ⟨rfl, D', cs', rv', xs', hb'.loose h.bq.ch h.bq.sb (fun k q => ?_), r1, r2, r3, hb'.bq.ch, fun k q => ?_⟩
  · rcases q with (rfl | ⟨i, hi, e⟩ | ⟨v, hv, e⟩) | e | ⟨j, e⟩
    · exact .inl h.bq.sb
    · exact h.bq.ins i hi k e
    · exact h.mi.ins v (.inl hv) k e
    · exact (hoff k e).2.2
    · exact h.mi.dS k j e
  · rcases q with (rfl | ⟨i, hi, e⟩ | ⟨v, hv, e⟩) | ⟨j, e⟩
    · exact .inl (.inl (.inl rfl))
    · exact hb'.bq.ins i hi k e
    · exact hb'.mi.ins v (.inl hv) k e
    · exact hb'.mi.dS k j e
end Go.Proofs.YtkjeneklkdekoaaGreatDoor
namespace Go.Proofs.YtkjeneklkdekoaaGreatDoor
open Go Go.RowKit
set_option linter.unusedSimpArgs false
set_option linter.unusedVariables false

/-! ### A book, by its blocks -/
theorem own_zero {w : World} {B e s n : Nat} {v : Value} {xs : List Value} (h : w.ownsRow B e s v n xs) : w.ownsRow 0 e s v n xs := by
  refine ⟨h.1, ?_⟩
  rcases h.2 with q | ⟨g, cap, cur, e1, _, e3⟩
  · exact .inl q
  · exact .inr ⟨g, cap, cur, e1, Nat.zero_le _, e3⟩
theorem cell_alike {w w' : World} {g k : Nat} (h : w'.heap[g]? = w.heap[g]?) : w'.cell? ⟨g, k, none⟩ = w.cell? ⟨g, k, none⟩ := by
  unfold World.cell?
  simp only [h]
/-- A book that was told N lists; U: its blocks. -/
def Bk (w : World) (bb N : Nat) (U : Nat → Prop) : Prop := ∃ D cs rv xs, Bo w w bb 0 U D cs rv xs (N : Nat) 0 (N : Nat) ∧ (∀ k, U k ↔ Ob bb rv xs k ∨ ∃ j, D k j) ∧ (xs 2).length ≤ N ∧ (xs 0).length ≤ N * (2 * N + 2)
theorem Bk.lt {w : World} {bb N : Nat} {U : Nat → Prop} (h : Bk w bb N U) {k : Nat} (hk : U k) : k < w.heap.size := by
  obtain ⟨D, cs, rv, xs, h1, h2, h3, h4⟩ := h
  rcases (h2 k).1 hk with (rfl | ⟨i, hi, e⟩ | ⟨v, hv, e⟩) | ⟨j, e⟩
  · exact lt_of_block h1.bq.br.at_
  · exact ((h1.bq.br.own i hi).lt k e).2
  · obtain ⟨i, hi, rfl⟩ := List.mem_iff_getElem.1 hv
    have hl := h1.len.1
    obtain ⟨n, L, b, c, _, ho, _⟩ := (h1.mi.rt i _ ((xs 3)[i]'(by omega)) (Nat.zero_le _) (List.getElem?_eq_getElem hi) (List.getElem?_eq_getElem (by omega))).ex
    exact (ho.lt k e).2
  · obtain ⟨c, hc⟩ := h1.mi.dk.typ k j e
    exact lt_of_block hc
theorem Bk.keep {w w' : World} {bb N : Nat} {U : Nat → Prop} (h : Bk w bb N U) (hk : ∀ k, U k → w'.heap[k]? = w.heap[k]?) : Bk w' bb N U := by
  obtain ⟨D, cs, rv, xs, h1, h2, h3, h4⟩ := h
  have kO : ∀ k, Ob bb rv xs k → w'.heap[k]? = w.heap[k]? := fun k q => hk k ((h2 k).2 (.inl q))
  have kD : ∀ g j, D g j → w'.heap[g]? = w.heap[g]? := fun g j q => hk g ((h2 g).2 (.inr ⟨j, q⟩))
  have kk : Keeps D w w' := fun g j q => cell_alike (kD g j q)
  refine ⟨D, cs, rv, xs, ⟨⟨h1.bq.br.keep (kO bb (.inl rfl)) (fun i hi k e => kO k (.inr (.inl ⟨i, hi, e⟩))), h1.bq.hd, Ch.refl _ _, h1.bq.sb, fun i hi k e => .inl ((h2 k).2 (.inl (.inr (.inl ⟨i, hi, e⟩))))⟩, ⟨⟨fun g j q => ?_⟩, h1.mi.pd.keep kk (fun _ _ q => q), h1.mi.ps, h1.mi.wl, fun i v vn e => ?_, fun i v vn hi e1 e2 => ?_, fun i v e => ?_, fun g j q => .inl ((h2 g).2 (.inr ⟨j, q⟩)), fun v hv g e => ?_⟩, h1.n4, h1.len, h1.i5, h1.i6⟩, h2, h3, h4⟩
  · obtain ⟨c, hc⟩ := h1.mi.dk.typ g j q
    exact ⟨c, (kD g j q).trans hc⟩
  · simp at e
  · exact (h1.mi.rt i v vn hi e1 e2).keep (fun k e => kO k (.inr (.inr ⟨v, List.mem_of_getElem? e1, e⟩))) kk (fun _ _ q => q) (fun _ _ _ q => q)
  · simp at e
  · rcases hv with q | q | q
    · exact .inl ((h2 g).2 (.inl (.inr (.inr ⟨v, q, e⟩))))
    · cases q
    · cases q
theorem bk_start {w : World} {bb : Nat} {cs : Array Value} (hat : BkAt w bb cs) (hd : Hd cs 0 0 0) (hr : ∀ i, i < 8 → cs[4 + i]? = some (.slice none 0 0)) : Bk w bb 0 (fun k => k = bb) := by
  refine ⟨_, cs, _, _, bo_start hat hd hr _ rfl, fun k => ?_, by simp, by simp⟩
  constructor
  · exact fun q => .inl (.inl q)
  · rintro ((q | ⟨i, _, e⟩ | ⟨v, hv, _⟩) | ⟨j, q⟩)
    · exact q
    · simp [Value.ownBlock] at e
    · cases hv
    · exact q.elim
/-- A list is laid into the book. -/
theorem bk_step {w : World} {bb N : Nat} {U : Nat → Prop} (h : Bk w bb N U) (hN : N ≤ 500) (va : Option Addr) (n vc : Nat) (L : List Value) (mark : Int) (ho : w.ownsRow 0 5 1 (.slice va n vc) n L) (hb : ∀ u ∈ L, Bv u) (hn : n ≤ 900000) (hoff : ∀ g, (Value.slice va n vc).ownBlock = some g → ¬ U g) :
    Calls Tryz.prog 28 #[.pointer (some ⟨bb, 0, none⟩), .slice va n vc, .int .i64 mark] w fun e w' => e = .returned (.tuple #[]) ∧ ∃ U', Bk w' bb (N + 1) U' ∧ Ch (fun k => U k ∨ (Value.slice va n vc).ownBlock = some k) w w' ∧ ∀ k, U' k → (U k ∨ (Value.slice va n vc).ownBlock = some k) ∨ w.heap.size ≤ k := by
  obtain ⟨D, cs, rv, xs, h1, h2, h3, h4⟩ := h
  have e1 : N * (2 * N + 2) ≤ 500 * (2 * 500 + 2) := Nat.mul_le_mul hN (by omega)
  refine (book_step bb 0 (fun k => U k ∨ (Value.slice va n vc).ownBlock = some k) D cs rv xs N N va n vc L mark w w (h1.more (fun k q => .inl q)) (Nat.zero_le _) (by omega) (by omega) (by omega) ho hb hn (fun g e => ⟨fun q => hoff g e ((h2 g).2 (.inl q)), fun j q => hoff g e ((h2 g).2 (.inr ⟨j, q⟩)), .inl (.inr e)⟩)).mono ?_
  rintro e w' ⟨rfl, D', cs', rv', xs', q1, q2, q3, q4, q5, q6⟩
  have back : ∀ k, (Ob bb rv xs k ∨ (Value.slice va n vc).ownBlock = some k ∨ ∃ j, D k j) → U k ∨ (Value.slice va n vc).ownBlock = some k := fun k q => by
    rcases q with q | q | q
    · exact .inl ((h2 k).2 (.inl q))
    · exact .inr q
    · exact .inl ((h2 k).2 (.inr q))
  refine ⟨rfl, fun k => Ob bb rv' xs' k ∨ ∃ j, D' k j, ⟨D', cs', rv', xs', q1.tight (fun k => ∃ j, D' k j) (fun g j q => ⟨j, q⟩), fun k => Iff.rfl, by omega, ?_⟩, q5.mono (fun j _ q => back j q), fun k q => ?_⟩
  · have e2 : (N + 1) * (2 * (N + 1) + 2) = N * (2 * N + 2) + 4 * N + 4 := by
      rw [Nat.add_mul, Nat.mul_add, Nat.mul_add, Nat.mul_add, Nat.mul_add]
      omega
    omega
  · rcases q6 k q with q | q
    · exact .inl (back k q)
    · exact .inr q
theorem bk_hold {w : World} {bb N : Nat} {U : Nat → Prop} (h : Bk w bb N U) (hN : N ≤ 500) : Calls Tryz.prog 11 #[.pointer (some ⟨bb, 0, none⟩)] w fun e w1 => e = .returned (.bool true) ∧ Below w.heap.size w w1 := by
  obtain ⟨D, cs, rv, xs, h1, h2, h3, h4⟩ := h
  have e1 : N * (2 * N + 2) ≤ 500 * (2 * 500 + 2) := Nat.mul_le_mul hN (by omega)
  exact hold_bo h1 (by omega) (by omega)
end Go.Proofs.YtkjeneklkdekoaaGreatDoor
namespace Go.Proofs.YtkjeneklkdekoaaGreatDoor.Rm
open Go.RowKit
set_option linter.unusedSimpArgs false
set_option linter.unusedVariables false

/-- Is a number within two others? -/
def wi (c a b : Int) : Bool := decide (a ≤ c) && decide (c ≤ b)
/-- The byte at a place, as a number. -/
def atI (s : ByteArray) (j : Int) : Int := atB s j.toNat
/-- Do the bytes from a place on, so many, all go on with a code point? -/
def tlN (s : ByteArray) (f : Nat) : Nat → Bool
  | 0 => true
  | n + 1 => tlN s f n && wi (atI s (f + n : Nat)) 128 191
/-- From a place up to another. -/
def tlI (s : ByteArray) (j l : Int) : Bool := tlN s j.toNat (l - j).toNat

theorem tlN_false (s : ByteArray) (f : Nat) : ∀ (m n : Nat), tlN s f m = false → m ≤ n → tlN s f n = false
  | m, 0, h, hm => by
    obtain rfl : m = 0 := by omega
    exact h
  | m, n + 1, h, hm => by
    by_cases e : m = n + 1
    · subst e; exact h
    · simp [tlN, tlN_false s f m n h (by omega)]

theorem within_any (c a b : Int) (w : World) :
    Calls Tryz.prog 136 #[.int .u8 c, .int .u8 a, .int .u8 b] w fun e w' => e = .returned (.bool (wi c a b)) ∧ w' = w := by
  by_cases h1 : a ≤ c
  · by_cases h2 : c ≤ b
    · have hw : wi c a b = true := by simp [wi, h1, h2]
      rw [hw]
      clear hw
      go_enter Tryz.func136, Tryz.ntmps136
      go_wp2
      go_ret
      exact ⟨rfl, rfl⟩
    · have hw : wi c a b = false := by simp [wi, h2]
      rw [hw]
      clear hw
      go_enter Tryz.func136, Tryz.ntmps136
      go_wp2
      go_ret
      exact ⟨rfl, rfl⟩
  · have hw : wi c a b = false := by simp [wi, h1]
    rw [hw]
    clear hw
    go_enter Tryz.func136, Tryz.ntmps136
    go_wp2
    go_ret
    exact ⟨rfl, rfl⟩

theorem at_any (s : ByteArray) (j : Int) (hj : 0 ≤ j) (w : World) :
    Calls Tryz.prog 135 #[.string s, .int .i64 j] w fun e w' => e = .returned (.int .u8 (atI s j)) ∧ w' = w := by
  obtain ⟨i, rfl⟩ : ∃ i : Nat, j = i := ⟨j.toNat, by omega⟩
  have e : atI s (i : Int) = atB s i := rfl
  rw [e]
  clear e hj
  by_cases h : i < s.size
  · rw [atB_in s i h]
    go_enter Tryz.func135, Tryz.ntmps135
    go_wp2
    go_ret
    exact ⟨rfl, rfl⟩
  · rw [atB_out s i h]
    go_enter Tryz.func135, Tryz.ntmps135
    go_wp2
    go_ret
    exact ⟨rfl, rfl⟩

set_option maxHeartbeats 400000 in
theorem tail_nat (s : ByteArray) (f n : Nat) (hb : f + n ≤ 1000000000) (w : World) :
    Calls Tryz.prog 137 #[.string s, .int .i64 f, .int .i64 (f + n : Int)] w fun e w' => e = .returned (.bool (tlN s f n)) ∧ w' = w := by
  go_enter Tryz.func137, Tryz.ntmps137
  go_wp2
  go_loop [7] (fun i => ∃ k : Nat, k ≤ n ∧ i = .int .i64 ((f + k : Nat) : Int) ∧ tlN s f k = true) (fun i => f + n - (intOf i).toNat)
  case atStart => exact ⟨0, Nat.zero_le _, rfl, rfl⟩
  case round =>
    obtain ⟨k, hk, rfl, ht⟩ := hrel
    have HT : Hid (tlN s f k = true) := ht
    clear ht
    by_cases hlt : k < n
    · by_cases hw : wi (atI s ((f : Int) + (k : Int))) 128 191 = true
      · have HS : Hid (tlN s f (k + 1) = true) := by have h1 := HT.out; simp only [tlN, h1, Int.natCast_add, hw, Bool.and_true, Hid]
        go_wp2_with (first | (go_at_call 135; refine (at_any _ _ (by omega) _).mono ?_; rintro e w' ⟨rfl, rfl⟩) | (go_at_call 136; refine (within_any _ _ _ _).mono ?_; rintro e w' ⟨rfl, rfl⟩))
        go_round
        case rel => exact ⟨k + 1, by omega, by go_num, HS.out⟩
        case measure => simp [intOf]; omega
      · have hw' : wi (atI s ((f : Int) + (k : Int))) 128 191 = false := by simpa using hw
        clear hw
        have HS : Hid (tlN s f n = false) := tlN_false s f (k + 1) n (by simp [tlN, hw']) (by omega)
        go_wp2_with (first | (go_at_call 135; refine (at_any _ _ (by omega) _).mono ?_; rintro e w' ⟨rfl, rfl⟩) | (go_at_call 136; refine (within_any _ _ _ _).mono ?_; rintro e w' ⟨rfl, rfl⟩))
        go_ret
        exact ⟨by rw [HS.out]; rfl, rfl⟩
    · obtain rfl : k = n := by omega
      go_wp2
      go_ret
      exact ⟨by rw [HT.out]; rfl, rfl⟩

theorem tail_any (s : ByteArray) (j l : Int) (hj : 0 ≤ j) (hl : j ≤ l) (hb : l ≤ 1000000000) (w : World) :
    Calls Tryz.prog 137 #[.string s, .int .i64 j, .int .i64 l] w fun e w' => e = .returned (.bool (tlI s j l)) ∧ w' = w := by
  obtain ⟨f, rfl⟩ : ∃ f : Nat, j = f := ⟨j.toNat, by omega⟩
  obtain ⟨n, rfl⟩ : ∃ n : Nat, l = (f : Int) + n := ⟨(l - f).toNat, by omega⟩
  have e : tlI s f ((f : Int) + n) = tlN s f n := by
    unfold tlI
    congr 1
    omega
  rw [e]
  exact tail_nat s f n (by omega) w
end Go.Proofs.YtkjeneklkdekoaaGreatDoor.Rm
