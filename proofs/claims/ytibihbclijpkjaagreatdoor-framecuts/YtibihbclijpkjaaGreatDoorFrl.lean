import Derived.Test.YtibihbclijpkjaaGreatDoorFri
namespace Go.Proofs.YtibihbclijpkjaaGreatDoor
open Go Go.RowKit
open Pkt (Pk Cn Sl In By Is Ss As pkCells Gd KindsAt Small)
set_option linter.unusedSimpArgs false
set_option linter.unusedVariables false

/-- All but some blocks is as it was. -/
structure Ch (S : Nat → Prop) (w w' : World) : Prop where
  os : w'.os = w.os
  tape : w'.tape = w.tape
  output : w'.output = w.output
  size : w.heap.size ≤ w'.heap.size
  block : ∀ k, k < w.heap.size → ¬ S k → w'.heap[k]? = w.heap[k]?
theorem Ch.refl (S : Nat → Prop) (w : World) : Ch S w w := ⟨rfl, rfl, rfl, Nat.le_refl _, fun _ _ _ => rfl⟩
theorem Ch.trans {S S' : Nat → Prop} {a b c : World} (h : Ch S a b) (k : Ch S' b c) (hs : ∀ j, j < a.heap.size → S' j → S j) : Ch S a c :=
  ⟨k.os.trans h.os, k.tape.trans h.tape, k.output.trans h.output, Nat.le_trans h.size k.size, fun j hj hn => (k.block j (by have := h.size; omega) (fun q => hn (hs j hj q))).trans (h.block j hj hn)⟩
theorem Ch.mono {S S' : Nat → Prop} {a b : World} (h : Ch S a b) (hs : ∀ j, j < a.heap.size → S j → S' j) : Ch S' a b := (Ch.refl S' a).trans h hs
theorem Below.ch {S : Nat → Prop} {a b : World} (h : Below a.heap.size a b) : Ch S a b := ⟨h.os, h.tape, h.output, h.size, fun k hk _ => h.block k hk⟩
theorem Kq.ch {fb : Nat} {row : Option Nat} {a b : World} (h : Kq fb row a b) : Ch (fun k => k = fb ∨ row = some k) a b := ⟨h.os, h.tape, h.output, h.size, fun k hk hn => h.block k hk (fun e => hn (.inl e)) (fun e => hn (.inr e))⟩
theorem ch_set {w : World} (hb i : Nat) (v : Value) : Ch (fun k => k = hb) w (w.setCell ⟨hb, i, none⟩ v) := ⟨rfl, rfl, rfl, by simp [World.setCell], fun k hk hn => Below.heap_setCell _ _ _ _ hn⟩
theorem ch_grown {w w' : World} {r : Option Nat} (h : w.grownBy w' r) : Ch (fun k => r = some k) w w' := ⟨h.os, h.tape, h.output, h.size, fun k hk hn => h.block k hk (fun e => hn e.symm)⟩

/-- Packets that were heard. -/
def Ps (w : World) (no : Nat → Prop) : List Pk → List (Pk × Cn) → Prop
  | [], [] => True
  | q :: qs, x :: L => (Alike q x.1 ∧ In w q x.2 ∧ ∀ b, Uses q b → ¬ no b) ∧ Ps w no qs L
  | _, _ => False
theorem Ps.len {w : World} {no : Nat → Prop} : ∀ {qs : List Pk} {L : List (Pk × Cn)}, Ps w no qs L → qs.length = L.length
  | [], [], _ => rfl
  | q :: qs, x :: L, h => by simp [Ps.len h.2]
  | [], _ :: _, h => h.elim
  | _ :: _, [], h => h.elim
theorem Ps.mono {w w' : World} {no no' : Nat → Prop} (hk : ∀ b, b < w.heap.size → ¬ no b → w'.heap[b]? = w.heap[b]?) (hn : ∀ b, b < w.heap.size → no' b → no b) : ∀ {qs : List Pk} {L : List (Pk × Cn)}, Ps w no qs L → Ps w' no' qs L
  | [], [], _ => trivial
  | q :: qs, x :: L, h => ⟨⟨h.1.1, In.congr h.1.2.1 (fun b hb => hk b (In.lt h.1.2.1 hb) (h.1.2.2 b hb)), fun b hb q => h.1.2.2 b hb (hn b (In.lt h.1.2.1 hb) q)⟩, Ps.mono hk hn h.2⟩
  | [], _ :: _, h => h.elim
  | _ :: _, [], h => h.elim
theorem Ps.snoc {w : World} {no : Nat → Prop} {q : Pk} {x : Pk × Cn} (hq : Alike q x.1 ∧ In w q x.2 ∧ ∀ b, Uses q b → ¬ no b) : ∀ {qs : List Pk} {L : List (Pk × Cn)}, Ps w no qs L → Ps w no (qs ++ [q]) (L ++ [x])
  | [], [], _ => ⟨hq, trivial⟩
  | q' :: qs, x' :: L, h => ⟨h.1, Ps.snoc hq h.2⟩
  | [], _ :: _, h => h.elim
  | _ :: _, [], h => h.elim
theorem Ps.at {w : World} {no : Nat → Prop} : ∀ {qs : List Pk} {L : List (Pk × Cn)}, Ps w no qs L → ∀ (i : Nat) q x, qs[i]? = some q → L[i]? = some x → Alike q x.1 ∧ In w q x.2
  | [], [], _, i, q, x, e, _ => by simp at e
  | q' :: qs, x' :: L, h, 0, q, x, e, e' => by simp at e e'; subst e e'; exact ⟨h.1.1, h.1.2.1⟩
  | q' :: qs, x' :: L, h, i + 1, q, x, e, e' => Ps.at h.2 i q x (by simpa using e) (by simpa using e')
  | [], _ :: _, h, _, _, _, _, _ => h.elim
  | _ :: _, [], h, _, _, _, _, _ => h.elim
/-- What was heard, in memory. -/
def hdCells (v : Value) (a e : Int) : Array Value := #[v, .int .i64 a, .int .i64 e, .bool false]
def HdAt (w : World) (hb : Nat) (v : Value) (a e : Int) : Prop := w.heap[hb]? = some (.cells (hdCells v a e) 57 (0, 0))
def pkRow (qs : List Pk) : List Value := qs.flatMap fun q => (pkCells q).toList
theorem pkRow_snoc (qs : List Pk) (q : Pk) : pkRow (qs ++ [q]) = pkRow qs ++ (pkCells q).toList := by simp [pkRow]
/-- The blocks that a frame and what was heard change. -/
def Mt (fb hb : Nat) (rf rh : Option Nat) (b : Nat) : Prop := b = fb ∨ b = hb ∨ rf = some b ∨ rh = some b
def HS (w : World) (hb B : Nat) (rh : Option Nat) (no : Nat → Prop) (L : List (Pk × Cn)) (la le : Int) : Prop :=
  ∃ v qs, HdAt w hb v la le ∧ w.ownsRow B 29 25 v qs.length (pkRow qs) ∧ v.ownBlock = rh ∧ Ps w no qs L
/-- A row, later: the same block or a new one. -/
def Nw (n0 : Nat) (r r' : Option Nat) : Prop := r' = r ∨ r' = none ∨ ∃ k, r' = some k ∧ n0 ≤ k
theorem Nw.old {n0 : Nat} {r r' : Option Nat} (h : Nw n0 r r') {b : Nat} (hb : b < n0) (e : r' = some b) : r = some b := by
  rcases h with rfl | rfl | ⟨k, rfl, hk⟩
  · exact e
  · cases e
  · cases e; omega
theorem Nw.trans {n0 n1 : Nat} {r r' r'' : Option Nat} (h : Nw n0 r r') (h' : Nw n1 r' r'') (hn : n0 ≤ n1) : Nw n0 r r'' := by
  rcases h' with rfl | rfl | ⟨k, rfl, hk⟩
  · exact h
  · exact .inr (.inl rfl)
  · exact .inr (.inr ⟨k, rfl, by omega⟩)
theorem mt_old {n0 : Nat} {fb hb : Nat} {rf rf' rh rh' : Option Nat} (h1 : Nw n0 rf rf') (h2 : Nw n0 rh rh') {b : Nat} (hb' : b < n0) (h : Mt fb hb rf' rh' b) : Mt fb hb rf rh b := by
  rcases h with h | h | h | h
  · exact .inl h
  · exact .inr (.inl h)
  · exact .inr (.inr (.inl (h1.old hb' h)))
  · exact .inr (.inr (.inr (h2.old hb' h)))
/-- The blocks that no packet lies in. -/
def No (X : Nat → Prop) (fb hb : Nat) (rf rh : Option Nat) (b : Nat) : Prop := X b ∨ Mt fb hb rf rh b
theorem no_old {n0 : Nat} {X : Nat → Prop} {fb hb : Nat} {rf rf' rh rh' : Option Nat} (h1 : Nw n0 rf rf') (h2 : Nw n0 rh rh') {b : Nat} (hb' : b < n0) (h : No X fb hb rf' rh' b) : No X fb hb rf rh b := h.elim .inl (fun q => .inr (mt_old h1 h2 hb' q))
theorem HdAt.lt {w : World} {hb : Nat} {v : Value} {a e : Int} (h : HdAt w hb v a e) : hb < w.heap.size := lt_of_block h
theorem HdAt.cell {w : World} {hb : Nat} {v : Value} {a e : Int} (h : HdAt w hb v a e) (k : Nat) (u : Value) (hk : (hdCells v a e)[k]? = some u) : w.cell? ⟨hb, k, none⟩ = some u := by
  unfold HdAt at h
  simp [World.cell?, h, hk]
theorem HdAt.frozen {w : World} {hb : Nat} {v : Value} {a e : Int} (h : HdAt w hb v a e) (k : Nat) : w.frozen? ⟨hb, k, none⟩ = false := frozen_of_row w hb k _ _ h
theorem HdAt.keep {w w' : World} {hb : Nat} {v : Value} {a e : Int} (h : HdAt w hb v a e) (hk : w'.heap[hb]? = w.heap[hb]?) : HdAt w' hb v a e := by
  unfold HdAt at h ⊢; rw [hk]; exact h
theorem HdAt.set0 {w : World} {hb : Nat} {v : Value} {a e : Int} (h : HdAt w hb v a e) (v' : Value) : HdAt (w.setCell ⟨hb, 0, none⟩ v') hb v' a e := by
  unfold HdAt at h ⊢; rw [heap_setCell_same w hb 0 _ _ v' h]; rfl
theorem HdAt.set1 {w : World} {hb : Nat} {v : Value} {a e : Int} (h : HdAt w hb v a e) (x : Int) : HdAt (w.setCell ⟨hb, 1, none⟩ (.int .i64 x)) hb v x e := by
  unfold HdAt at h ⊢; rw [heap_setCell_same w hb 1 _ _ _ h]; rfl
theorem HdAt.set2 {w : World} {hb : Nat} {v : Value} {a e : Int} (h : HdAt w hb v a e) (x : Int) : HdAt (w.setCell ⟨hb, 2, none⟩ (.int .i64 x)) hb v a x := by
  unfold HdAt at h ⊢; rw [heap_setCell_same w hb 2 _ _ _ h]; rfl
theorem HdAt.set3 {w : World} {hb : Nat} {v : Value} {a e : Int} (h : HdAt w hb v a e) : HdAt (w.setCell ⟨hb, 3, none⟩ (.bool false)) hb v a e := by
  unfold HdAt at h ⊢; rw [heap_setCell_same w hb 3 _ _ _ h]; rfl
theorem HdAt.own_ne {w : World} {hb : Nat} {v u : Value} {a e : Int} (h : HdAt w hb v a e) {B n t s : Nat} {xs : List Value} (ho : w.ownsRow B t s u n xs) (ht : t ≠ 57) : u.ownBlock ≠ some hb := by
  intro q
  rcases ho.2 with ⟨rfl, _⟩ | ⟨g, cap, cur, rfl, _, hg, _⟩
  · cases q
  · have e' : g = hb := by simpa [Value.ownBlock] using q
    subst e'
    unfold HdAt at h
    rw [hg] at h
    simp at h
    exact ht h.2
theorem HdAt.ne_fr {w : World} {hb fb : Nat} {v u : Value} {a e most d gone fa fe : Int} (h : HdAt w hb v a e) (hf : FrAt w fb most u d gone fa fe) : hb ≠ fb := by
  intro q
  subst q
  unfold HdAt at h
  unfold FrAt at hf
  rw [hf] at h
  simp at h
theorem HS.below {w w' : World} {hb B : Nat} {rh : Option Nat} {no no' : Nat → Prop} {L : List (Pk × Cn)} {la le : Int} (h : HS w hb B rh no L la le) (S : Nat → Prop) (hc : Ch S w w') (h1 : ¬ S hb) (h2 : ∀ k, rh = some k → ¬ S k) (hS : ∀ b, b < w.heap.size → S b → no b) (hn : ∀ b, b < w.heap.size → no' b → no b) : HS w' hb B rh no' L la le := by
  obtain ⟨v, qs, ha, ho, hr, hp⟩ := h
  exact ⟨v, qs, ha.keep (hc.block hb ha.lt h1), own_keep ho (fun k e => hc.block k (ho.lt k e).2 (h2 k (hr ▸ e))), hr, Ps.mono (fun b hb hnb => hc.block b hb (fun q => hnb (hS b hb q))) hn hp⟩
end Go.Proofs.YtibihbclijpkjaaGreatDoor
namespace Go.Proofs.YtibihbclijpkjaaGreatDoor
open Go Go.RowKit
open Pkt (Pk Cn Sl In By Is Ss As pkCells Gd KindsAt Small)
set_option linter.unusedSimpArgs false
set_option linter.unusedVariables false

/-- How a frame stands when it has answered. -/
def FE (w : World) (fb : Nat) (most : Int) (B : Nat) (rf : Option Nat) (P : Nat) (z : Nat → Int) (H : Nat) (la le : Int) : Option DecR → Prop
  | some (.fault x) => FD w fb most (wrap64 (P + x.1)) x.2 ∧ la = wrap64 (P + x.1) ∧ le = x.2 ∧ x.2 ≠ 0 ∧ rf = none
  | some _ => FS w fb most B rf P z H ∧ la = 0 ∧ le = 0
  | none => FS w fb most B rf P z H
/-- One answer of Next, in few words. -/
theorem next_few {w : World} {fb : Nat} {most : Int} {B : Nat} {rf : Option Nat} {P : Nat} {z : Nat → Int} {H : Nat} (h : FS w fb most B rf P z H) (hz : ∀ i, 0 ≤ z i ∧ z i ≤ 255) (hg : Gw w) (hn : P + H ≤ 400000) (hB : B ≤ w.heap.size) (R : DecR) (hR : decP z H most = R) (hok : R.isOk = false) :
    Calls Tryz.prog 48 #[.pointer (some ⟨fb, 0, none⟩)] w fun e w' => ∃ ev a e' rf', e = .returned (.tuple #[.agg (pkCells (blank 0)), .bool false, ev]) ∧ Hid (∀ w'', Below w'.heap.size w' w'' → Calls Tryz.prog 49 #[ev] w'' fun e w3 => e = .returned (.tuple #[.agg #[.int .i64 a, .int .i64 e'], .bool true]) ∧ Below w''.heap.size w'' w3) ∧ Hid (FE w' fb most B rf' P z H a e' (some R)) ∧ Hid (Kq fb none w w') ∧ Hid (Nw w.heap.size rf rf') := by
  refine (next_any h hz hg hn hB).mono fun e w' ⟨hx, hk⟩ => ?_
  rw [hR] at hx
  cases R with
  | ok p c k => cases hok
  | more =>
    obtain ⟨rf', rfl, hf, hr⟩ := hx
    exact ⟨_, 0, 0, rf', rfl, fun w'' _ => ftold_nil w'', ⟨hf, rfl, rfl⟩, hk, hr⟩
  | fault x =>
    obtain ⟨gg, rfl, hgg, hf⟩ := hx
    have hx2 := dec_fault most hR
    exact ⟨_, _, _, none, rfl, fun w'' hb => ftold_fault gg _ _ w'' ((hb.block _ (lt_of_block hgg)).trans hgg) hx2, ⟨hf, rfl, rfl, hx2, rfl⟩, hk, .inr (.inl rfl)⟩
theorem next_pkt {w : World} {fb : Nat} {most : Int} {B : Nat} {rf : Option Nat} {P : Nat} {z : Nat → Int} {H : Nat} (h : FS w fb most B rf P z H) (hz : ∀ i, 0 ≤ z i ∧ z i ≤ 255) (hg : Gw w) (hn : P + H ≤ 400000) (hB : B ≤ w.heap.size) (p : Pk) (c : Cn) (k : Nat) (hR : decP z H most = .ok p c k) :
    Calls Tryz.prog 48 #[.pointer (some ⟨fb, 0, none⟩)] w fun e w' => ∃ q rf', e = .returned (.tuple #[.agg (pkCells q), .bool true, .nilIface]) ∧ Hid (FS w' fb most B rf' (P + k) (sh z k) (H - k)) ∧ Hid (Alike q p ∧ In w' q c ∧ ∀ b, Uses q b → w.heap.size ≤ b ∧ rf' ≠ some b) ∧ Hid (Kq fb none w w') ∧ Hid (Nw w.heap.size rf rf') := by
  refine (next_any h hz hg hn hB).mono fun e w' ⟨hx, hk⟩ => ?_
  rw [hR] at hx
  obtain ⟨q, rf', rfl, hf, hi, ha, hu, hr⟩ := hx
  exact ⟨q, rf', rfl, hf, ⟨ha, hi, hu⟩, hk, hr⟩
theorem gw_ch {S : Nat → Prop} {w w' : World} (h : Gw w) (hc : Ch S w w') (hs : ∀ k, k < 3 → ¬ S k) : Gw w' := h.keep fun k hk => hc.block k (by have := h.three; omega) (hs k hk)
theorem blk_ne {w : World} {g g' : Nat} {c c' : Array Value} {t t' : TypeId} {f f' : Nat × Nat} (h : w.heap[g]? = some (.cells c t f)) (h' : w.heap[g']? = some (.cells c' t' f')) (ht : t ≠ t') : g ≠ g' := by
  intro e
  subst e
  rw [h] at h'
  simp at h'
  exact ht h'.2.1
theorem own_blk {w : World} {B e s n : Nat} {v : Value} {xs : List Value} (h : w.ownsRow B e s v n xs) {k : Nat} (hk : v.ownBlock = some k) : ∃ c, w.heap[k]? = some (.cells c e (0, 0)) := by
  rcases h.2 with ⟨r, _⟩ | ⟨g, cap, cur, r, _, hg, _⟩
  · rw [r] at hk; cases hk
  · rw [r] at hk
    have e' : g = k := by simpa [Value.ownBlock] using hk
    subst e'
    exact ⟨_, hg⟩
theorem FS.blk {w : World} {fb : Nat} {most : Int} {B : Nat} {rf : Option Nat} {P : Nat} {z : Nat → Int} {H : Nat} (h : FS w fb most B rf P z H) : (∃ c, w.heap[fb]? = some (.cells c 88 (0, 0))) ∧ ∀ k, rf = some k → B ≤ k ∧ ∃ c, w.heap[k]? = some (.cells c 5 (0, 0)) := by
  obtain ⟨v, n, z0, d, gone, fa, hf, hr, rest⟩ := h
  exact ⟨⟨_, hf.at_⟩, fun k e => ⟨(hf.own.lt k (hr ▸ e)).1, own_blk hf.own (hr ▸ e)⟩⟩
theorem FE.keep {w w' : World} {fb : Nat} {most : Int} {B : Nat} {rf : Option Nat} {P : Nat} {z : Nat → Int} {H : Nat} {la le : Int} {R : Option DecR} (h : FE w fb most B rf P z H la le R) (h1 : w'.heap[fb]? = w.heap[fb]?) (h2 : ∀ k c, rf = some k → w.heap[k]? = some (.cells c 5 (0, 0)) → w'.heap[k]? = w.heap[k]?) : FE w' fb most B rf P z H la le R := by
  have hs : FS w fb most B rf P z H → FS w' fb most B rf P z H := fun q => q.keep h1 fun k e => by obtain ⟨c, hc⟩ := (q.blk.2 k e).2; exact h2 k c e hc
  cases R with
  | none => exact hs h
  | some D =>
    cases D with
    | fault x => exact ⟨h.1.keep h1, h.2⟩
    | more => exact ⟨hs h.1, h.2⟩
    | ok p c k => exact ⟨hs h.1, h.2⟩
theorem FE.blk {w : World} {fb : Nat} {most : Int} {B : Nat} {rf : Option Nat} {P : Nat} {z : Nat → Int} {H : Nat} {la le : Int} {R : Option DecR} (h : FE w fb most B rf P z H la le R) : ∃ c, w.heap[fb]? = some (.cells c 88 (0, 0)) := by
  cases R with
  | none => exact (FS.blk h).1
  | some D =>
    cases D with
    | fault x => obtain ⟨g, hg⟩ := h.1; exact ⟨_, hg⟩
    | more => exact h.1.blk.1
    | ok p c k => exact h.1.blk.1
end Go.Proofs.YtibihbclijpkjaaGreatDoor
