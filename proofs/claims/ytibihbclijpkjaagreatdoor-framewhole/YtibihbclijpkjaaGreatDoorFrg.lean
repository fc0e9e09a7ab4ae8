import Derived.Test.YtibihbclijpkjaaGreatDoorPFr
import Derived.Test.YtibihbclijpkjaaGreatDoorFrf
import Derived.Test.YtibihbclijpkjaaGreatDoorFdz
namespace Go.Proofs.YtibihbclijpkjaaGreatDoor
open Go Go.ChangeShapes Go.WideShapes Go.ChangeAt Go.RowKit
open Pkt (forms kinds_of_laid KindsAt)
set_option linter.unusedSimpArgs false
set_option linter.unusedVariables false

theorem Tryz.et : Tryz.prog.globalNamed "errors.errorType" = some 1 := by kernel_rfl
theorem Tryz.rt : (Tryz.prog.cutTypes.find? (·.1 == "internal/reflectlite.rtype")).map (·.2) = some 168 := by kernel_rfl
theorem Tryz.oneRow : ((List.range 212).filter fun t => Tryz.prog.rowNamed t [101, 114, 114, 111, 114]) = [39] := by kernel_rfl
theorem Tryz.size : Tryz.prog.types.size = 212 := by kernel_rfl

/-- What is laid for a frame. -/
def frLaid : List (String × DataW Unit) := [("errors.errorType", Rows.laid_errors_errorType), ("crier/packet.kinds", Rows.laid_crier_packet_kinds)]
theorem fr_parts {W : World} (h : laidMetH Tryz.prog frLaid W) : KindsAt W ∧ Et W := by
  have h' : laidMet Tryz.prog [("crier/packet.kinds", Rows.laid_crier_packet_kinds)] W ∧ handlesMet Tryz.prog [("errors.errorType", Rows.laid_errors_errorType)] W := h
  refine ⟨kinds_of_laid h'.1, ?_⟩
  obtain ⟨name, u, ty, e1, e2, e3, e4, e5⟩ := h'.2 _ (List.mem_singleton.2 rfl)
  have en : name = [101, 114, 114, 111, 114] := (Option.some.inj e1).symm
  subst en
  obtain rfl := Option.some.inj (Tryz.rt.symm.trans e2)
  have hm : ty ∈ (List.range 212).filter fun t => Tryz.prog.rowNamed t [101, 114, 114, 111, 114] := List.mem_filter.2 ⟨List.mem_range.2 (by rw [← Tryz.size]; exact e3), e4⟩
  rw [Tryz.oneRow] at hm
  obtain rfl := List.mem_singleton.1 hm
  have hh : typeHandle Tryz.prog 39 = .pointer (some ⟨3, 39, none⟩) := by kernel_rfl
  rw [hh] at e5
  show W.cell? ⟨1, 0, none⟩ = _
  simpa using World.var?_cell Tryz.et e5 0
def putKinds : Obj → Obj
  | .cells _ t frozen => .cells kindCells t frozen
  | o => o
def putType : Obj → Obj
  | .cells _ t frozen => .cells #[.iface 168 (.agg #[.pointer (some ⟨3, 39, none⟩)])] t frozen
  | o => o
theorem frWorld_met (os : Os) (args : Array Value) : laidMetH Tryz.prog frLaid (({ World.holding Tryz.prog os ⟨#[], #[], []⟩ with heap := ((World.holding Tryz.prog os ⟨#[], #[], []⟩).heap.modify 0 putKinds).modify 1 putType } : World).forCall (fun _ _ => 0) ⟨#[], args, []⟩).memory :=
  laidMetH_of_parts (show laidMet Tryz.prog [("crier/packet.kinds", Rows.laid_crier_packet_kinds)] _ from laidMet_of_run' 8 (by kernel_rfl) (by kernel_rfl)) (by kernel_rfl)
end Go.Proofs.YtibihbclijpkjaaGreatDoor
namespace Go.Proofs.YtibihbclijpkjaaGreatDoor
open Go Go.RowKit
open Pkt (Pk Cn Sl In By Small)
set_option linter.unusedSimpArgs false
set_option linter.unusedVariables false

/-! ### What a frame tells, call by call -/
/-- Bytes from a place on. -/
def sh (z : Nat → Int) (k : Nat) : Nat → Int := fun i => z (k + i)
theorem sh_zero (z : Nat → Int) : sh z 0 = z := by funext i; simp [sh]
theorem sh_sh (z : Nat → Int) (a b : Nat) : sh (sh z a) b = sh z (a + b) := by funext i; simp [sh, Nat.add_assoc]
theorem sh_bd {z : Nat → Int} (hz : ∀ i, 0 ≤ z i ∧ z i ≤ 255) (k : Nat) : ∀ i, 0 ≤ sh z k i ∧ sh z k i ≤ 255 := fun i => hz _
def DecR.isOk : DecR → Bool
  | .ok _ _ _ => true
  | _ => false
/-- What is heard, asked so often (below 0: as often as it goes): the packets, how many bytes they were, how it ended. -/
inductive Hr (most : Int) : Int → (Nat → Int) → Nat → List (Pk × Cn) → Nat → Option DecR → Prop
  | zero (z : Nat → Int) (n : Nat) : Hr most 0 z n [] 0 none
  | stop (m : Int) (z : Nat → Int) (n : Nat) (R : DecR) : m ≠ 0 → decP z n most = R → R.isOk = false → Hr most m z n [] 0 (some R)
  | step (m : Int) (z : Nat → Int) (n : Nat) (p : Pk) (c : Cn) (k : Nat) (L : List (Pk × Cn)) (t : Nat) (R : Option DecR) : m ≠ 0 → decP z n most = .ok p c k → Hr most (m - 1) (sh z k) (n - k) L t R → Hr most m z n ((p, c) :: L) (k + t) R
theorem hr_len {most : Int} {m : Int} {z : Nat → Int} {n : Nat} {L : List (Pk × Cn)} {t : Nat} {R : Option DecR} (h : Hr most m z n L t R) (hz : ∀ i, 0 ≤ z i ∧ z i ≤ 255) (hn : n ≤ 700000) : L.length ≤ t ∧ t ≤ n ∧ (∀ x ∈ L, Small x.1 x.2) := by
  induction h with
  | zero z n => exact ⟨Nat.le_refl _, Nat.zero_le _, fun x hx => by cases hx⟩
  | stop m z n R _ _ _ => exact ⟨Nat.le_refl _, Nat.zero_le _, fun x hx => by cases hx⟩
  | step m z n p c k L t R _ e _ ih =>
    obtain ⟨h1, h2, h3⟩ := dec_ok most hz hn e
    obtain ⟨i1, i2, i3⟩ := ih (sh_bd hz k) (by omega)
    refine ⟨by simp; omega, by omega, fun x hx => ?_⟩
    rcases List.mem_cons.1 hx with rfl | hx
    · exact h3
    · exact i3 x hx
/-- The way through all bytes. -/
def itr (D : Nat → DecR) : Nat → Nat × List (Pk × Cn)
  | 0 => (0, [])
  | j + 1 => match D (itr D j).1 with
    | .ok p c k => ((itr D j).1 + k, (itr D j).2 ++ [(p, c)])
    | _ => itr D j
def Rn (D : Nat → DecR) (P : Nat) (L : List (Pk × Cn)) : Prop := ∃ j, itr D j = (P, L)
theorem Rn.nil (D : Nat → DecR) : Rn D 0 [] := ⟨0, rfl⟩
theorem Rn.snoc {D : Nat → DecR} {P : Nat} {L : List (Pk × Cn)} {p : Pk} {c : Cn} {k : Nat} (h : Rn D P L) (e : D P = .ok p c k) : Rn D (P + k) (L ++ [(p, c)]) := by
  obtain ⟨j, hj⟩ := h
  exact ⟨j + 1, by simp [itr, hj, e]⟩
/-- What is told at a place of all bytes. -/
def dAt (Z : Nat → Int) (T : Nat) (most : Int) (P : Nat) : DecR := decP (sh Z P) (T - P) most
end Go.Proofs.YtibihbclijpkjaaGreatDoor
namespace Go.Proofs.YtibihbclijpkjaaGreatDoor
open Go Go.RowKit
open Pkt (Pk Cn Sl In By Is Ss As pkCells Gd KindsAt Small)
set_option linter.unusedSimpArgs false
set_option linter.unusedVariables false

/-! ### The blocks that a packet's lists lie in -/
def Uses (q : Pk) (b : Nat) : Prop := ∃ s : Sl, (s = q.wP ∨ s = q.pass ∨ s = q.mP ∨ s = q.asks ∨ s = q.codes ∨ s = q.filters) ∧ s.n ≠ 0 ∧ ∃ off, s.a = some ⟨b, off, none⟩
theorem cell_congr {w w' : World} {b off : Nat} (h : w'.heap[b]? = w.heap[b]?) : w'.cell? ⟨b, off, none⟩ = w.cell? ⟨b, off, none⟩ := by
  unfold World.cell?
  rw [show (⟨b, off, none⟩ : Addr).block = b from rfl, h]
theorem lt_of_cell {w : World} {b off : Nat} {v : Value} (h : w.cell? ⟨b, off, none⟩ = some v) : b < w.heap.size := by
  rcases Nat.lt_or_ge b w.heap.size with h1 | h1
  · exact h1
  · simp [World.cell?, Array.getElem?_eq_none h1] at h
theorem By.congr {w w' : World} {s : Sl} {z : Nat → Int} (h : By w s z) (hu : ∀ b off, s.n ≠ 0 → s.a = some ⟨b, off, none⟩ → w'.heap[b]? = w.heap[b]?) : By w' s z := by
  refine ⟨h.1, h.2.1, ?_⟩
  by_cases h0 : s.n = 0
  · exact .inl h0
  · obtain ⟨b, off, e, hc⟩ := h.2.2.resolve_left h0
    exact .inr ⟨b, off, e, fun i hi => (cell_congr (hu b off h0 e)).trans (hc i hi)⟩
theorem Is.congr {w w' : World} {s : Sl} {z : Nat → Int} (h : Is w s z) (hu : ∀ b off, s.n ≠ 0 → s.a = some ⟨b, off, none⟩ → w'.heap[b]? = w.heap[b]?) : Is w' s z := by
  refine ⟨h.1, ?_⟩
  by_cases h0 : s.n = 0
  · exact .inl h0
  · obtain ⟨b, off, e, hc⟩ := h.2.resolve_left h0
    exact .inr ⟨b, off, e, fun i hi => (cell_congr (hu b off h0 e)).trans (hc i hi)⟩
theorem Ss.congr {w w' : World} {s : Sl} {z : Nat → ByteArray} (h : Ss w s z) (hu : ∀ b off, s.n ≠ 0 → s.a = some ⟨b, off, none⟩ → w'.heap[b]? = w.heap[b]?) : Ss w' s z := by
  refine ⟨h.1, ?_⟩
  by_cases h0 : s.n = 0
  · exact .inl h0
  · obtain ⟨b, off, e, hc⟩ := h.2.resolve_left h0
    exact .inr ⟨b, off, e, fun i hi => (cell_congr (hu b off h0 e)).trans (hc i hi)⟩
theorem As.congr {w w' : World} {s : Sl} {f : Nat → ByteArray} {q : Nat → Int} (h : As w s f q) (hu : ∀ b off, s.n ≠ 0 → s.a = some ⟨b, off, none⟩ → w'.heap[b]? = w.heap[b]?) : As w' s f q := by
  refine ⟨h.1, ?_⟩
  by_cases h0 : s.n = 0
  · exact .inl h0
  · obtain ⟨b, off, e, hc⟩ := h.2.resolve_left h0
    exact .inr ⟨b, off, e, fun i hi => ⟨(cell_congr (hu b off h0 e)).trans (hc i hi).1, (cell_congr (hu b off h0 e)).trans (hc i hi).2⟩⟩
theorem In.congr {w w' : World} {q : Pk} {c : Cn} (h : In w q c) (hu : ∀ b, Uses q b → w'.heap[b]? = w.heap[b]?) : In w' q c where
  wP := By.congr h.wP fun b off h0 e => hu b ⟨_, .inl rfl, h0, off, e⟩
  pass := By.congr h.pass fun b off h0 e => hu b ⟨_, .inr (.inl rfl), h0, off, e⟩
  mP := By.congr h.mP fun b off h0 e => hu b ⟨_, .inr (.inr (.inl rfl)), h0, off, e⟩
  asks := As.congr h.asks fun b off h0 e => hu b ⟨_, .inr (.inr (.inr (.inl rfl))), h0, off, e⟩
  codes := Is.congr h.codes fun b off h0 e => hu b ⟨_, .inr (.inr (.inr (.inr (.inl rfl)))), h0, off, e⟩
  filters := Ss.congr h.filters fun b off h0 e => hu b ⟨_, .inr (.inr (.inr (.inr (.inr rfl)))), h0, off, e⟩
theorem In.lt {w : World} {q : Pk} {c : Cn} (h : In w q c) {b : Nat} (hu : Uses q b) : b < w.heap.size := by
  obtain ⟨s, hs, h0, off, e⟩ := hu
  have one : ∀ {b' off' : Nat}, s.a = some ⟨b', off', none⟩ → b' = b := fun e' => by rw [e] at e'; injection e' with e1; injection e1 with e2 e3; exact e2.symm
  rcases hs with rfl | rfl | rfl | rfl | rfl | rfl
  · obtain ⟨b', off', e', hc⟩ := h.wP.2.2.resolve_left h0; have := one e'; subst this; exact lt_of_cell (hc 0 (by omega))
  · obtain ⟨b', off', e', hc⟩ := h.pass.2.2.resolve_left h0; have := one e'; subst this; exact lt_of_cell (hc 0 (by omega))
  · obtain ⟨b', off', e', hc⟩ := h.mP.2.2.resolve_left h0; have := one e'; subst this; exact lt_of_cell (hc 0 (by omega))
  · obtain ⟨b', off', e', hc⟩ := h.asks.2.resolve_left h0; have := one e'; subst this; exact lt_of_cell (hc 0 (by omega)).1
  · obtain ⟨b', off', e', hc⟩ := h.codes.2.resolve_left h0; have := one e'; subst this; exact lt_of_cell (hc 0 (by omega))
  · obtain ⟨b', off', e', hc⟩ := h.filters.2.resolve_left h0; have := one e'; subst this; exact lt_of_cell (hc 0 (by omega))
theorem NxAll.uses {B : Nat} {q : Pk} (h : NxAll B q) {b : Nat} (hu : Uses q b) : B ≤ b := by
  obtain ⟨s, hs, h0, off, e⟩ := hu
  rcases hs with rfl | rfl | rfl | rfl | rfl | rfl
  · exact h.wP b off e
  · exact h.pass b off e
  · exact h.mP b off e
  · exact h.asks b off e
  · exact h.codes b off e
  · exact h.filters b off e
/-! ### A frame, as what it holds -/
/-- A frame that lives: how many bytes are gone, which it holds. -/
def FS (w : World) (fb : Nat) (most : Int) (B : Nat) (rf : Option Nat) (P : Nat) (z : Nat → Int) (H : Nat) : Prop :=
  ∃ v n z0 d gone fa, Fr w fb most v B n z0 d gone fa 0 ∧ v.ownBlock = rf ∧ gone + (d : Int) = (P : Int) ∧ n - d = H ∧ (∀ i, i < H → z0 (d + i) = z i) ∧ (∀ i, 0 ≤ z0 i ∧ z0 i ≤ 255) ∧ 0 ≤ gone
/-- A frame that is dead, and why. -/
def FD (w : World) (fb : Nat) (most : Int) (a e : Int) : Prop := ∃ gone, FrAt w fb most (.slice none 0 0) 0 gone a e
/-- Where all is that a packet is looked at with. -/
def Gw (w : World) : Prop := Gd w ∧ Et w
theorem Gw.keep {w w' : World} (h : Gw w) (hk : ∀ k, k < 3 → w'.heap[k]? = w.heap[k]?) : Gw w' := by
  refine ⟨⟨fun i hi => ?_, ?_⟩, (cell_congr (hk 1 (by omega))).trans h.2⟩
  · obtain ⟨h1, h2, h3⟩ := h.1.kinds i hi
    exact ⟨(cell_congr (hk 0 (by omega))).trans h1, (cell_congr (hk 0 (by omega))).trans h2, (cell_congr (hk 0 (by omega))).trans h3⟩
  · obtain ⟨m, hm⟩ := h.1.mx
    exact ⟨m, (cell_congr (hk 2 (by omega))).trans hm⟩
theorem Gw.three {w : World} (h : Gw w) : 3 ≤ w.heap.size := by obtain ⟨m, hm⟩ := h.1.mx; have := lt_of_cell hm; omega
theorem Gw.below {w w' : World} (h : Gw w) (hb : Below w.heap.size w w') : Gw w' := h.keep fun k hk => hb.block k (by have := h.three; omega)
theorem FrAt.keep {w w' : World} {fb : Nat} {most : Int} {v : Value} {d gone fa fe : Int} (h : FrAt w fb most v d gone fa fe) (hk : w'.heap[fb]? = w.heap[fb]?) : FrAt w' fb most v d gone fa fe := by
  unfold FrAt at h ⊢
  rw [hk]; exact h
theorem own_keep {w w' : World} {B e s n : Nat} {v : Value} {xs : List Value} (h : w.ownsRow B e s v n xs) (hk : ∀ k, v.ownBlock = some k → w'.heap[k]? = w.heap[k]?) : w'.ownsRow B e s v n xs := by
  refine ⟨h.1, ?_⟩
  rcases h.2 with h0 | ⟨g, cap, cur, rfl, h1, hg, h2⟩
  · exact .inl h0
  · exact .inr ⟨g, cap, cur, rfl, h1, (hk g rfl).trans hg, h2⟩
theorem FS.keep {w w' : World} {fb : Nat} {most : Int} {B : Nat} {rf : Option Nat} {P : Nat} {z : Nat → Int} {H : Nat} (h : FS w fb most B rf P z H) (h1 : w'.heap[fb]? = w.heap[fb]?) (h2 : ∀ k, rf = some k → w'.heap[k]? = w.heap[k]?) : FS w' fb most B rf P z H := by
  obtain ⟨v, n, z0, d, gone, fa, hf, hr, rest⟩ := h
  exact ⟨v, n, z0, d, gone, fa, ⟨hf.at_.keep h1, own_keep hf.own (fun k e => h2 k (hr ▸ e)), hf.dn⟩, hr, rest⟩
theorem FS.lt {w : World} {fb : Nat} {most : Int} {B : Nat} {rf : Option Nat} {P : Nat} {z : Nat → Int} {H : Nat} (h : FS w fb most B rf P z H) : fb < w.heap.size ∧ ∀ k, rf = some k → k < w.heap.size := by
  obtain ⟨v, n, z0, d, gone, fa, hf, hr, rest⟩ := h
  exact ⟨FrAt.lt hf.at_, fun k e => (hf.own.lt k (hr ▸ e)).2⟩
theorem FD.keep {w w' : World} {fb : Nat} {most a e : Int} (h : FD w fb most a e) (h1 : w'.heap[fb]? = w.heap[fb]?) : FD w' fb most a e := by
  obtain ⟨g, hg⟩ := h
  exact ⟨g, hg.keep h1⟩
theorem FS.below {w w' : World} {fb : Nat} {most : Int} {B : Nat} {rf : Option Nat} {P : Nat} {z : Nat → Int} {H : Nat} (h : FS w fb most B rf P z H) (hb : Below w.heap.size w w') : FS w' fb most B rf P z H :=
  h.keep (hb.block _ h.lt.1) (fun k e => hb.block _ (h.lt.2 k e))
end Go.Proofs.YtibihbclijpkjaaGreatDoor
