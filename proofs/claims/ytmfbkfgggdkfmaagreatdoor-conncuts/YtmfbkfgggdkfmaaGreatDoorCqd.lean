import Derived.Test.YtmfbkfgggdkfmaaGreatDoorCnf
import Derived.Maps.AppendAt
import Derived.Lib.AppendZeros
import Derived.Great.BuildSlice
import Derived.Test.YtmfbkfgggdkfmaaGreatDoorCnc
namespace Go.Proofs.YtmfbkfgggdkfmaaGreatDoor.Co
open Go Go.RowKit
open Pkt (Pk Cn Sl In By Is Ss As pkCells Gd KindsAt Small)
set_option linter.unusedSimpArgs false
set_option linter.unusedVariables false
/-! ### What a conn tells of all bytes, purely -/
structure Itm where
  a : Int × Int × Int
  p : Pk
  c : Cn
def itm (st : Int) (p : Pk) (c : Cn) : Itm := ⟨ansP st p, if (ansP st p).1 = 1 then p else blank 0, if (ansP st p).1 = 1 then c else noCn⟩
structure Cst where
  P : Nat
  st : Int
  ov : Bool
  L : List Itm
def cstep (D : Nat → DecR) (s : Cst) : Cst := if s.ov = true then s else match D s.P with
  | .more => s
  | .fault x => { s with ov := true, L := s.L ++ [⟨(3, 0, x.2), blank 0, noCn⟩] }
  | .ok p c k => ⟨s.P + k, 1, !onP s.st p, s.L ++ [itm s.st p c]⟩
def citr (D : Nat → DecR) : Nat → Cst
  | 0 => ⟨0, 0, false, []⟩
  | j + 1 => cstep D (citr D j)
def CRn (D : Nat → DecR) (s : Cst) : Prop := ∃ j, citr D j = s
theorem CRn.zero (D : Nat → DecR) : CRn D ⟨0, 0, false, []⟩ := ⟨0, rfl⟩
theorem CRn.step {D : Nat → DecR} {s : Cst} (h : CRn D s) : CRn D (cstep D s) := by
  obtain ⟨j, rfl⟩ := h
  exact ⟨j + 1, rfl⟩
theorem citr_stays {D : Nat → DecR} {j : Nat} (h : cstep D (citr D j) = citr D j) : ∀ i, citr D (j + i) = citr D j
  | 0 => rfl
  | i + 1 => by
    show cstep D (citr D (j + i)) = _
    rw [citr_stays h i, h]
theorem CRn.uniq {D : Nat → DecR} {s s' : Cst} (h : CRn D s) (h' : CRn D s') (e : cstep D s = s) (e' : cstep D s' = s') : s = s' := by
  obtain ⟨j, rfl⟩ := h
  obtain ⟨j', rfl⟩ := h'
  rcases Nat.le_total j j' with q | q
  · have := citr_stays e (j' - j)
    rw [show j + (j' - j) = j' by omega] at this
    exact this.symm
  · have := citr_stays e' (j - j')
    rw [show j' + (j - j') = j by omega] at this
    exact this
/-- What holds of all that is told. -/
structure Ord (s : Cst) : Prop where
  st : s.ov = false → (s.L = [] → s.st = 0) ∧ (s.L ≠ [] → s.st = 1)
  s01 : s.st = 0 ∨ s.st = 1
  on : ∀ i (h : i < s.L.length), (s.L[i].a.1 ≠ 1 ∨ s.L[i].p.kind = 14) → s.ov = true ∧ i + 1 = s.L.length
  r3 : ∀ i (h : i < s.L.length), 1 ≤ s.L[i].a.1 ∧ s.L[i].a.1 ≤ 3
  fst : ∀ i (h : i < s.L.length), s.L[i].a.1 = 1 → (i = 0 ↔ s.L[i].p.kind = 1)
  ref : ∀ i (h : i < s.L.length), s.L[i].a.1 = 2 → i = 0 ∧ s.L[i].a.2.1 = 1
  knd : ∀ i (h : i < s.L.length), s.L[i].p.kind ≠ 2 ∧ s.L[i].p.kind ≠ 9 ∧ s.L[i].p.kind ≠ 11 ∧ s.L[i].p.kind ≠ 13
theorem ans_rng (st : Int) (p : Pk) : 1 ≤ (ansP st p).1 ∧ (ansP st p).1 ≤ 3 := by
  unfold ansP
  repeat' split
  all_goals decide
theorem ans_two {st : Int} {p : Pk} (hs : st = 0 ∨ st = 1) (h : (ansP st p).1 = 2) : st = 0 ∧ (ansP st p).2.1 = 1 := by
  rcases hs with rfl | rfl
  · refine ⟨rfl, ?_⟩
    unfold ansP at h ⊢
    repeat' split at h
    all_goals simp_all
  · exfalso
    unfold ansP at h
    repeat' split at h
    all_goals simp_all
theorem ans_kinds {st : Int} {p : Pk} (hs : st = 0 ∨ st = 1) (h : (ansP st p).1 = 1) : p.kind ≠ 2 ∧ p.kind ≠ 9 ∧ p.kind ≠ 11 ∧ p.kind ≠ 13 := by
  rcases ans_one hs h with ⟨rfl, a2⟩ | ⟨rfl, a2⟩
  · rw [a2]; decide
  · unfold ansP at h
    rw [if_neg (by decide), if_neg a2] at h
    by_cases hk : p.kind = 2 ∨ p.kind = 9 ∨ p.kind = 11 ∨ p.kind = 13
    · rw [if_pos hk] at h
      simp at h
    · refine ⟨fun q => hk (.inl q), fun q => hk (.inr (.inl q)), fun q => hk (.inr (.inr (.inl q))), fun q => hk (.inr (.inr (.inr q)))⟩
theorem snoc_at {α : Type} {L : List α} {x : α} {i : Nat} (h : i < (L ++ [x]).length) : (∃ h' : i < L.length, (L ++ [x])[i] = L[i]) ∨ (i = L.length ∧ (L ++ [x])[i] = x) := by
  rw [List.length_append, List.length_singleton] at h
  by_cases hi : i < L.length
  · exact .inl ⟨hi, List.getElem_append_left hi⟩
  · have e : i = L.length := by omega
    subst e
    exact .inr ⟨rfl, by simp⟩
theorem Ord.zero : Ord ⟨0, 0, false, []⟩ := ⟨fun _ => ⟨fun _ => rfl, fun h => absurd rfl h⟩, .inl rfl, fun i h => by simp at h, fun i h => by simp at h, fun i h => by simp at h, fun i h => by simp at h, fun i h => by simp at h⟩
theorem Ord.step {D : Nat → DecR} {s : Cst} (h : Ord s) : Ord (cstep D s) := by
  unfold cstep
  split
  · exact h
  rename_i hov
  have hov' : s.ov = false := by simpa using hov
  have hall : ∀ i (hi : i < s.L.length), s.L[i].a.1 = 1 ∧ s.L[i].p.kind ≠ 14 := fun i hi => by
    refine ⟨Classical.byContradiction fun q => ?_, fun q => ?_⟩
    · have := (h.on i hi (.inl q)).1
      rw [hov'] at this; cases this
    · have := (h.on i hi (.inr q)).1
      rw [hov'] at this; cases this
  split
  · exact h
  · rename_i x e
    refine ⟨nofun, h.s01, ?_, ?_, ?_, ?_, ?_⟩
    · intro i hi hq
      refine ⟨rfl, ?_⟩
      rcases snoc_at hi with ⟨h1, h2⟩ | ⟨h1, h2⟩
      · simp only at hq
        rw [h2] at hq
        have := hall i h1
        rcases hq with q | q
        · exact absurd this.1 q
        · exact absurd q this.2
      · simp [h1]
    · intro i hi
      rcases snoc_at hi with ⟨h1, h2⟩ | ⟨h1, h2⟩
      · simp only; rw [h2]; exact h.r3 i h1
      · simp only; rw [h2]; exact ⟨show (1 : Int) ≤ 3 by decide, show (3 : Int) ≤ 3 by decide⟩
    · intro i hi
      rcases snoc_at hi with ⟨h1, h2⟩ | ⟨h1, h2⟩
      · simp only; rw [h2]; exact h.fst i h1
      · simp only; rw [h2]; intro q; exact absurd q (show ¬ (3 : Int) = 1 by decide)
    · intro i hi
      rcases snoc_at hi with ⟨h1, h2⟩ | ⟨h1, h2⟩
      · simp only; rw [h2]; exact h.ref i h1
      · simp only; rw [h2]; intro q; exact absurd q (show ¬ (3 : Int) = 2 by decide)
    · intro i hi
      rcases snoc_at hi with ⟨h1, h2⟩ | ⟨h1, h2⟩
      · simp only; rw [h2]; exact h.knd i h1
      · simp only; rw [h2]; exact (show (0 : Int) ≠ 2 ∧ (0 : Int) ≠ 9 ∧ (0 : Int) ≠ 11 ∧ (0 : Int) ≠ 13 by decide)
  · rename_i p c k e
    have hst := h.st hov'
    have hk0 : ∀ (b : Bool), (if (ansP s.st p).1 = 1 then p else blank 0).kind = if (ansP s.st p).1 = 1 then p.kind else 0 := fun _ => by split <;> rfl
    refine ⟨fun _ => ⟨fun q => by simp at q, fun _ => rfl⟩, .inr rfl, ?_, ?_, ?_, ?_, ?_⟩
    · intro i hi hq
      rcases snoc_at hi with ⟨h1, h2⟩ | ⟨h1, h2⟩
      · simp only at hq
        rw [h2] at hq
        have := hall i h1
        rcases hq with q | q
        · exact absurd this.1 q
        · exact absurd q this.2
      · simp only at hq
        rw [h2] at hq
        refine ⟨?_, by simp [h1]⟩
        show (!onP s.st p) = true
        unfold itm at hq
        simp only at hq
        unfold onP
        rcases hq with q | q
        · rw [decide_eq_false q]; rfl
        · rw [hk0 true] at q
          by_cases ha : (ansP s.st p).1 = 1
          · rw [if_pos ha] at q
            rw [decide_eq_false (show ¬ p.kind ≠ 14 by simpa using q), Bool.and_false]; rfl
          · rw [if_neg ha] at q; exact absurd q (by decide)
    · intro i hi
      rcases snoc_at hi with ⟨h1, h2⟩ | ⟨h1, h2⟩
      · simp only; rw [h2]; exact h.r3 i h1
      · simp only; rw [h2]; exact ans_rng _ _
    · intro i hi
      rcases snoc_at hi with ⟨h1, h2⟩ | ⟨h1, h2⟩
      · simp only; rw [h2]; exact h.fst i h1
      · simp only
        rw [h2]
        intro ha
        have ha' : (ansP s.st p).1 = 1 := ha
        have hkk : (itm s.st p c).p.kind = p.kind := by unfold itm; simp only; rw [if_pos ha']
        rw [hkk]
        rcases ans_one h.s01 ha' with ⟨a1, a2⟩ | ⟨a1, a2⟩
        · have hL : s.L = [] := Classical.byContradiction fun q => by have := hst.2 q; rw [a1] at this; cases this
          exact ⟨fun _ => a2, fun _ => by rw [h1, hL]; rfl⟩
        · have hL : s.L ≠ [] := fun q => by have := hst.1 q; rw [a1] at this; cases this
          have : 0 < s.L.length := List.length_pos_iff.2 hL
          exact ⟨fun q => by omega, fun q => absurd q a2⟩
    · intro i hi
      rcases snoc_at hi with ⟨h1, h2⟩ | ⟨h1, h2⟩
      · simp only; rw [h2]; exact h.ref i h1
      · simp only
        rw [h2]
        intro ha
        obtain ⟨a1, a2⟩ := ans_two h.s01 (show (ansP s.st p).1 = 2 from ha)
        have hL : s.L = [] := Classical.byContradiction fun q => by have := hst.2 q; rw [a1] at this; cases this
        exact ⟨by rw [h1, hL]; rfl, a2⟩
    · intro i hi
      rcases snoc_at hi with ⟨h1, h2⟩ | ⟨h1, h2⟩
      · simp only; rw [h2]; exact h.knd i h1
      · simp only
        rw [h2]
        show (if (ansP s.st p).1 = 1 then p else blank 0).kind ≠ 2 ∧ (if (ansP s.st p).1 = 1 then p else blank 0).kind ≠ 9 ∧ (if (ansP s.st p).1 = 1 then p else blank 0).kind ≠ 11 ∧ (if (ansP s.st p).1 = 1 then p else blank 0).kind ≠ 13
        by_cases ha : (ansP s.st p).1 = 1
        · rw [if_pos ha]; exact ans_kinds h.s01 ha
        · rw [if_neg ha]; decide
end Go.Proofs.YtmfbkfgggdkfmaaGreatDoor.Co
namespace Go.Proofs.YtmfbkfgggdkfmaaGreatDoor.Co
open Go Go.RowKit
open Pkt (Pk Cn Sl In By Is Ss As pkCells Gd KindsAt Small wpList_load_wanted ck TT)
set_option linter.unusedSimpArgs false
set_option linter.unusedVariables false
/-! ### The bytes of the examples -/
def kbZ (a b : Int) : List Int := [16, 12, 0, 4, 77, 81, 84, 84, 4, 2, a, b, 0, 0, 192, 0]
theorem kb_bd (a b : Int) (ha : 0 ≤ a ∧ a ≤ 255) (hb : 0 ≤ b ∧ b ≤ 255) : ∀ i, 0 ≤ listZ (kbZ a b) i ∧ listZ (kbZ a b) i ≤ 255 := listZ_bd _ (by
  intro x hx
  simp only [kbZ, List.mem_cons, List.not_mem_nil, or_false] at hx
  omega)
theorem kb_con (n : Nat) (hn : n = 14 ∨ n = 15) (a b : Int) (ha : 0 ≤ a ∧ a ≤ 255) (hb : 0 ≤ b ∧ b ≤ 255) : decP (listZ (kbZ a b)) n 1000 = .ok (conP (a * 256 + b)) noCn 14 := by
  have hp : packP (listZ (kbZ a b)) (2 + 12) 2 = .ok (conP (a * 256 + b), noCn) := by
    unfold packP
    rw [show intoP (listZ (kbZ a b)) (2 + 12) ⟨2, 0, 0⟩ (listZ (kbZ a b) 0 / 16) noCn (listZ (kbZ a b) 0 % 16) = .ok (⟨14, 0, 0⟩, conP (a * 256 + b), noCn) by kernel_rfl]
    simp only
    rw [if_pos (con_ck (a * 256 + b) (by omega))]
  rcases hn with rfl | rfl
  · exact dec_of (h := 2) (l := 12) (by kernel_rfl) (by decide) (by decide) hp
  · exact dec_of (h := 2) (l := 12) (by kernel_rfl) (by decide) (by decide) hp
theorem ping_more (a b : Int) : decP (sh (listZ (kbZ a b)) 14) 1 1000 = .more := by rw [decP, show headP (sh (listZ (kbZ a b)) 14) 1 (clampM 1000) = (0, 0, none) by kernel_rfl]; rfl
theorem ping_ok (a b : Int) : decP (sh (listZ (kbZ a b)) 14) 2 1000 = .ok (blank 12) noCn 2 := by
  refine dec_of (h := 2) (l := 0) (by kernel_rfl) (by decide) (by decide) ?_
  unfold packP
  rw [show intoP (sh (listZ (kbZ a b)) 14) (2 + 0) ⟨2, 0, 0⟩ (sh (listZ (kbZ a b)) 14 0 / 16) noCn (sh (listZ (kbZ a b)) 14 0 % 16) = .ok (⟨2, 0, 0⟩, blank 12, noCn) by kernel_rfl]
  simp only [ck_ping, if_true]
def pgZ : List Int := [192, 0]
theorem pg_bd : ∀ i, 0 ≤ listZ pgZ i ∧ listZ pgZ i ≤ 255 := listZ_bd _ (by decide)
theorem pg_ok : decP (listZ pgZ) 2 1000 = .ok (blank 12) noCn 2 := by
  refine dec_of (h := 2) (l := 0) (by kernel_rfl) (by decide) (by decide) ?_
  unfold packP
  rw [show intoP (listZ pgZ) (2 + 0) ⟨2, 0, 0⟩ (listZ pgZ 0 / 16) noCn (listZ pgZ 0 % 16) = .ok (⟨2, 0, 0⟩, blank 12, noCn) by kernel_rfl]
  simp only [ck_ping, if_true]
/-! ### Calls, in few words -/
def Mk (cb fb : Nat) (rf : Option Nat) (k : Nat) : Prop := k = cb ∨ k = fb ∨ rf = some k
section
variable {w W : World} {cb fb : Nat} {most st si bd : Int} {rf : Option Nat} {P : Nat} {z : Nat → Int} {H : Nat}
/-- A box of another kind stays. -/
theorem KL.oth {W' : World} (h : KL w W cb fb most st si bd rf P z H) (hc : Ch (Mk cb fb rf) W W') {j : Nat} {c : Array Value} {t : TypeId} (hj : W.heap[j]? = some (.cells c t (0, 0))) (ht : t ≠ 5 ∧ t ≠ 50 ∧ t ≠ 63) : W'.heap[j]? = some (.cells c t (0, 0)) := by
  refine (hc.block j (Array.getElem?_eq_some_iff.1 hj).1 ?_).trans hj
  rintro (q | q | q)
  · exact blk_ne hj h.lv.cn ht.2.1 q
  · obtain ⟨c', h2⟩ := h.lv.fs.blk.1
    exact blk_ne hj h2 ht.2.2 q
  · obtain ⟨_, c', h2⟩ := h.lv.fs.blk.2 j q
    exact blk_ne hj h2 ht.1 rfl
/-- Bytes that are laid in a new list are pushed. -/
theorem kl_lit (L : List Int) (cs : Array Value) (h : KL w W cb fb most st si bd rf P z H) (z' : Nat → Int) (hcs : ∀ i, i < L.length → cs[i]? = some (.int .u8 (listZ L i))) (hb : ∀ x ∈ L, 0 ≤ x ∧ x ≤ 255) (hn : P + H ≤ 400000) (hln : L.length ≤ 400000) (h1 : ∀ i, i < H → z' i = z i) (h2 : ∀ i, i < L.length → z' (H + i) = listZ L i) :
    Calls Tryz.prog 8 #[.pointer (some ⟨cb, 0, none⟩), .slice (some ⟨W.heap.size, 0, none⟩) L.length L.length] (W.alloc (.cells cs 5)) fun e w' => e = .returned (.tuple #[]) ∧ ∃ rf', KL w w' cb fb most st si bd rf' P z' (H + L.length) ∧ Ch (Mk cb fb rf) W w' ∧ Nw W.heap.size rf rf' := by
  have hbb : Below W.heap.size W (W.alloc (.cells cs 5)) := (Below.refl _ _).alloc (Nat.le_refl _) _
  refine (kl_push (h.below hbb) ⟨some ⟨W.heap.size, 0, none⟩, L.length, L.length⟩ (listZ L) z' (by_new L cs hcs (listZ_bd L hb)) hn hln h1 h2).mono ?_
  rintro e w' ⟨rfl, rf', a1, a2, a3⟩
  refine ⟨rfl, rf', a1, (Below.ch (S := Mk cb fb rf) hbb).trans a2 (fun j _ q => ?_), ?_⟩
  · rcases q with q | q
    · exact .inr (.inl q)
    · exact .inr (.inr q)
  · rcases a3 with y | y | ⟨m, y, y2⟩
    · exact .inl y
    · exact .inr (.inl y)
    · exact .inr (.inr ⟨m, y, by have := hbb.size; omega⟩)
theorem mk_ch {W' : World} (hc : Ch (fun k => k = cb ∨ k = fb) W W') : Ch (Mk cb fb rf) W W' := hc.mono (fun j _ q => by
  rcases q with q | q
  · exact .inl q
  · exact .inr (.inl q))
/-- An Input in a box of its own. -/
theorem ibox {w2 w3 : World} {cs : Array Value} (h : w3 = (w2.alloc (.cells #[.int .i64 0, .int .i64 0, .int .i64 0, .bool false, .int .i64 0, .string ⟨#[]⟩, .bool false, .string ⟨#[]⟩, .slice none 0 0, .int .i64 0, .bool false, .bool false, .string ⟨#[]⟩, .bool false, .slice none 0 0, .bool false, .int .i64 0, .bool false, .string ⟨#[]⟩, .slice none 0 0, .int .i64 0, .bool false, .int .i64 0, .slice none 0 0, .slice none 0 0, .slice none 0 0, .int .i64 0, .int .i64 0] 41)).setRow w2.heap.size cs) : w3.heap[w2.heap.size]? = some (.cells cs 41 (0, 0)) ∧ Below w2.heap.size w2 w3 := by
  have h1 := zero_in w2
  rw [h]
  exact ⟨setRow_at h1, (below_setRow ((Below.refl _ _).alloc (Nat.le_refl _) _) (Nat.le_refl _)).out⟩
/-- Older blocks stay while a younger conn is called. -/
theorem KL.young {W' : World} {S : Nat → Prop} {n : Nat} (h : KL w W cb fb most st si bd rf P z H) (hc : Ch S W W') (hs : ∀ k, S k → n ≤ k) (h1 : cb < n) (h2 : fb < n) (h3 : ∀ k, rf = some k → k < n) (hw : w.heap.size ≤ n) : KL w W' cb fb most st si bd rf P z H :=
  h.keep hc (fun q => by have := hs _ q; omega) (fun q => by have := hs _ q; omega) (fun k e q => by have := hs _ q; have := h3 k e; omega) (fun k q => by have := hs k q; omega)
end
end Go.Proofs.YtmfbkfgggdkfmaaGreatDoor.Co
namespace Go.Proofs.YtmfbkfgggdkfmaaGreatDoor.Co
open Go Go.RowKit
open Pkt (Pk Cn Sl In By Is Ss As pkCells Gd KindsAt Small)
set_option linter.unusedSimpArgs false
set_option linter.unusedVariables false
/-! ### A row of Inputs -/
theorem addr_at (g j : Nat) : (⟨g, 0, none⟩ : Addr).add j = ⟨g, j, none⟩ := by unfold Addr.add; split <;> simp_all
theorem own_lt {w : World} {B e s n : Nat} {v : Value} {xs : List Value} (h : w.ownsRow B e s v n xs) {g : Nat} (hg : v.ownBlock = some g) : ∃ cur, w.heap[g]? = some (.cells cur e (0, 0)) := own_blk h hg
theorem own_ch {w w' : World} {S : Nat → Prop} {B e s n : Nat} {v : Value} {xs : List Value} (h : w.ownsRow B e s v n xs) (hc : Ch S w w') (hs : ∀ g, v.ownBlock = some g → ¬ S g) : w'.ownsRow B e s v n xs := own_keep h (fun k hk => by
  obtain ⟨c, hb⟩ := own_blk h hk
  exact hc.block k (Array.getElem?_eq_some_iff.1 hb).1 (hs k hk))
theorem own_ge {w : World} {B e s n : Nat} {v : Value} {xs : List Value} (h : w.ownsRow B e s v n xs) {g : Nat} (hg : v.ownBlock = some g) : B ≤ g := (h.lt g hg).1
theorem own_base2 {w : World} {B B' e s n : Nat} {v : Value} {xs : List Value} (h : w.ownsRow B e s v n xs) (hb : ∀ g, v.ownBlock = some g → B' ≤ g) : w.ownsRow B' e s v n xs :=
  ⟨h.1, h.2.elim .inl (fun ⟨g, cap, cur, a, b, c⟩ => .inr ⟨g, cap, cur, a, hb g (by rw [a]; rfl), c⟩)⟩
theorem ch_alloc (S : Nat → Prop) (w : World) (o : Obj) : Ch S w (w.alloc o) := Below.ch ((Below.refl _ _).alloc (Nat.le_refl _) _)
theorem app_gen {w : World} {v : Value} {n s bytes : Nat} {st e : TypeId} {xs : List Value} {cs : Array Value} {z : Value} (hu : Tryz.prog.underlying st = some (.slice e)) (hi : (Tryz.prog.info? e).map (fun i => (i.zero, i.size, i.bytes)) = some (some z, s, bytes)) (hz : z.cells.size = s) (hs : 0 < s) (hb : bytes ≤ 400)
    (ho : w.ownsRow 0 e s v n xs) (hc : cs.size = s) (h1 : ∀ u ∈ cs.toList, u.oneCell' = true) (hn : n ≤ 1000000) :
    ∃ g' cap' w', (Builtin.append_ #[st, st] st #[v, .slice (some ⟨w.heap.size, 0, none⟩) 1 1]).run Tryz.prog (w.alloc (.cells cs e)) = .ok (.slice (some ⟨g', 0, none⟩) (n + 1) cap') w' ∧ w'.ownsRow 0 e s (.slice (some ⟨g', 0, none⟩) (n + 1) cap') (n + 1) (xs ++ cs.toList) ∧ Ch (fun j => v.ownBlock = some j) w w' ∧ (v.ownBlock = some g' ∨ w.heap.size ≤ g') := by
  obtain ⟨i0, hi0, hzz⟩ := Option.map_eq_some_iff.1 hi
  simp only [Prod.mk.injEq] at hzz
  obtain ⟨v', w', hr, h2, h3, h4, h5⟩ := run_append_own_at (P := Tryz.prog) (w.alloc (.cells cs e)) 0 st st e i0 z s bytes hu hi0 hzz.1 hzz.2.1 hzz.2.2 hz hs v n xs (ho.alloc _) ⟨w.heap.size, 0, none⟩ 1 1 cs.toList (by simp [hc]) (fun j u hu => by
    rw [addr_at]
    exact box_cells (heap_alloc_new w _) j u (by simpa using hu)) h1 (by unfold maxLen; omega) (Nat.le_trans (Nat.mul_le_mul (show n + 1 ≤ 1000001 by omega) hb) (by omega)) (by omega)
  rcases h2.2 with ⟨_, q⟩ | ⟨g', cap', cur, rfl, _⟩
  · omega
  · refine ⟨g', cap', w', hr, h2, ?_, ?_⟩
    · exact (ch_alloc _ _ _).then ((ch_grown h3).mono (fun j _ q => q))
    · rcases h5 with q | q
      · exact .inl (by rw [← q]; rfl)
      · simp [Value.ownBlock] at q
        exact .inr (by omega)
theorem info41 : (Tryz.prog.info? 41).map (fun i => (i.zero, i.size, i.bytes)) = some (some (.agg (inC 0 (blank 0) 0 0)), 28, 352) := by kernel_rfl
def iC (x : Itm × Pk) : Array Value := inC x.1.a.1 x.2 x.1.a.2.1 x.1.a.2.2
def irow (LQ : List (Itm × Pk)) : List Value := LQ.flatMap (fun x => (iC x).toList)
structure InR (W : World) (n0 : Nat) (rf : Option Nat) (v : Value) (LQ : List (Itm × Pk)) : Prop where
  row : W.ownsRow n0 41 28 v LQ.length (irow LQ)
  its : ∀ x ∈ LQ, Alike x.2 x.1.p ∧ In W x.2 x.1.c ∧ ∀ b, Uses x.2 b → n0 ≤ b ∧ b < W.heap.size ∧ rf ≠ some b ∧ v.ownBlock ≠ some b
theorem InR.nil (W : World) (n0 : Nat) (rf : Option Nat) : InR W n0 rf (.slice none 0 0) [] := ⟨World.ownsRow_nil _ _ _ _, by intro x hx; cases hx⟩
/-- What others do. -/
theorem InR.keep {W W' : World} {n0 : Nat} {rf rf' : Option Nat} {v : Value} {LQ : List (Itm × Pk)} {S : Nat → Prop} (h : InR W n0 rf v LQ) (hc : Ch S W W') (h1 : ∀ g c, W.heap[g]? = some (.cells c 41 (0, 0)) → n0 ≤ g → ¬ S g) (h2 : ∀ b, n0 ≤ b → b < W.heap.size → rf ≠ some b → v.ownBlock ≠ some b → ¬ S b) (h3 : Nw W.heap.size rf rf') : InR W' n0 rf' v LQ := by
  refine ⟨own_ch h.row hc (fun g hg => by obtain ⟨c, hb⟩ := own_lt h.row hg; exact h1 g c hb (own_ge h.row hg)), fun x hx => ?_⟩
  obtain ⟨a1, a2, a3⟩ := h.its x hx
  refine ⟨a1, In.congr a2 (fun b hb => ?_), fun b hb => ?_⟩
  · obtain ⟨b1, b2, b3, b4⟩ := a3 b hb
    exact hc.block b b2 (h2 b b1 b2 b3 b4)
  · obtain ⟨b1, b2, b3, b4⟩ := a3 b hb
    refine ⟨b1, Nat.lt_of_lt_of_le b2 hc.size, ?_, b4⟩
    intro e
    exact b3 (h3.old b2 e)
theorem InR.below {W W' : World} {n0 : Nat} {rf : Option Nat} {v : Value} {LQ : List (Itm × Pk)} (h : InR W n0 rf v LQ) (hb : Below W.heap.size W W') : InR W' n0 rf v LQ := h.keep (S := fun _ => False) (Below.ch hb) (fun _ _ _ _ q => q) (fun _ _ _ _ _ q => q) (.inl rfl)
/-- An Input more. -/
theorem InR.push {W : World} {n0 : Nat} {rf : Option Nat} {v : Value} {LQ : List (Itm × Pk)} (h : InR W n0 rf v LQ) (x : Itm × Pk) (hx : Alike x.2 x.1.p ∧ In W x.2 x.1.c ∧ ∀ b, Uses x.2 b → n0 ≤ b ∧ b < W.heap.size ∧ rf ≠ some b ∧ v.ownBlock ≠ some b) (hn : LQ.length ≤ 1000000) (hw : n0 ≤ W.heap.size) :
    ∃ g' cap' w', (Builtin.append_ #[28, 28] 28 #[v, .slice (some ⟨W.heap.size, 0, none⟩) 1 1]).run Tryz.prog (W.alloc (.cells (iC x) 41)) = .ok (.slice (some ⟨g', 0, none⟩) (LQ.length + 1) cap') w' ∧ InR w' n0 rf (.slice (some ⟨g', 0, none⟩) (LQ.length + 1) cap') (LQ ++ [x]) ∧ Ch (fun j => v.ownBlock = some j) W w' := by
  obtain ⟨g', cap', w', h1, h2, h3, h4⟩ := app_gen (st := 28) (e := 41) (cs := iC x) Tryz.underlying28 info41 rfl (by omega) (by omega) (own_base2 h.row (fun _ _ => Nat.zero_le _)) rfl (fun u hu => (Array.all_eq_true_iff_forall_mem.1 (in_one _ _ _ _)) u (by simpa [iC] using hu)) hn
  have hg : n0 ≤ g' := by
    rcases h4 with q | q
    · exact own_ge h.row q
    · omega
  refine ⟨g', cap', w', h1, ⟨?_, ?_⟩, h3⟩
  · rw [List.length_append, List.length_singleton, show irow (LQ ++ [x]) = irow LQ ++ (iC x).toList by simp [irow]]
    exact own_base2 h2 (fun k hk => by simp [Value.ownBlock] at hk; omega)
  · intro y hy
    have hall : ∀ b, Uses y.2 b → n0 ≤ b ∧ b < W.heap.size ∧ rf ≠ some b ∧ v.ownBlock ≠ some b := by
      rcases List.mem_append.1 hy with q | q
      · exact (h.its y q).2.2
      · simp only [List.mem_singleton] at q; subst q; exact hx.2.2
    have hal : Alike y.2 y.1.p ∧ In W y.2 y.1.c := by
      rcases List.mem_append.1 hy with q | q
      · exact ⟨(h.its y q).1, (h.its y q).2.1⟩
      · simp only [List.mem_singleton] at q; subst q; exact ⟨hx.1, hx.2.1⟩
    refine ⟨hal.1, In.congr hal.2 (fun b hb => ?_), fun b hb => ?_⟩
    · obtain ⟨b1, b2, b3, b4⟩ := hall b hb
      exact h3.block b b2 b4
    · obtain ⟨b1, b2, b3, b4⟩ := hall b hb
      refine ⟨b1, Nat.lt_of_lt_of_le b2 h3.size, b3, ?_⟩
      intro e
      simp [Value.ownBlock] at e
      rcases h4 with q | q
      · rw [e] at q; exact b4 q
      · omega
/-! ### A conn at a pure state -/
def CM (w W : World) (cb fb : Nat) (most : Int) (Z : Nat → Int) (N : Nat) (s : Cst) (rf : Option Nat) : Prop :=
  if s.ov = true then KO w W cb ∧ fb < W.heap.size ∧ w.heap.size ≤ fb else (∃ si bd, KL w W cb fb most s.st si bd rf s.P (sh Z s.P) (N - s.P)) ∧ s.P ≤ N
/-- Nothing more is told. -/
def Stp (most : Int) (Z : Nat → Int) (N : Nat) (s : Cst) : Prop := s.ov = true ∨ decP (sh Z s.P) (N - s.P) most = .more
theorem CM.lt {w W : World} {cb fb : Nat} {most : Int} {Z : Nat → Int} {N : Nat} {s : Cst} {rf : Option Nat} (h : CM w W cb fb most Z N s rf) : cb < W.heap.size ∧ fb < W.heap.size ∧ w.heap.size ≤ cb ∧ w.heap.size ≤ fb ∧ Below w.heap.size w W := by
  unfold CM at h
  split at h
  · obtain ⟨⟨⟨fp, si, bd, hc⟩, hb, hl⟩, h2, h3⟩ := h
    exact ⟨hc.lt, h2, hl, h3, hb⟩
  · obtain ⟨⟨si, bd, hk⟩, -⟩ := h
    exact ⟨hk.lv.cn.lt, hk.lv.fs.lt.1, hk.cbl, hk.fbl, hk.bel⟩
theorem CM.below {w W W' : World} {cb fb : Nat} {most : Int} {Z : Nat → Int} {N : Nat} {s : Cst} {rf : Option Nat} (h : CM w W cb fb most Z N s rf) (hb : Below W.heap.size W W') : CM w W' cb fb most Z N s rf := by
  unfold CM at *
  split
  · rename_i q
    rw [if_pos q] at h
    exact ⟨h.1.below hb, Nat.lt_of_lt_of_le h.2.1 hb.size, h.2.2⟩
  · rename_i q
    rw [if_neg q] at h
    obtain ⟨⟨si, bd, hk⟩, h2⟩ := h
    exact ⟨⟨si, bd, hk.below hb⟩, h2⟩
/-- Only a row of Inputs is written. -/
theorem CM.row {w W W' : World} {cb fb : Nat} {most : Int} {Z : Nat → Int} {N : Nat} {s : Cst} {rf : Option Nat} {S : Nat → Prop} (h : CM w W cb fb most Z N s rf) (hc : Ch S W W') (hs : ∀ k, S k → w.heap.size ≤ k ∧ ∃ c, W.heap[k]? = some (.cells c 41 (0, 0))) : CM w W' cb fb most Z N s rf := by
  have h1 : ¬ S cb := fun q => by
    obtain ⟨_, c, h2⟩ := hs cb q
    unfold CM at h
    split at h
    · obtain ⟨⟨⟨fp, si, bd, hcn⟩, _, _⟩, _⟩ := h
      exact blk_ne hcn h2 (by decide) rfl
    · obtain ⟨⟨si, bd, hk⟩, -⟩ := h
      exact blk_ne hk.lv.cn h2 (by decide) rfl
  unfold CM at *
  split
  · rename_i q
    rw [if_pos q] at h
    exact ⟨h.1.keep hc h1 (fun k z => (hs k z).1), Nat.lt_of_lt_of_le h.2.1 hc.size, h.2.2⟩
  · rename_i q
    rw [if_neg q] at h
    obtain ⟨⟨si, bd, hk⟩, h2⟩ := h
    refine ⟨⟨si, bd, hk.keep hc h1 (fun z => ?_) (fun k e z => ?_) (fun k z => (hs k z).1)⟩, h2⟩
    · obtain ⟨_, c, h3⟩ := hs fb z
      obtain ⟨c', h4⟩ := hk.lv.fs.blk.1
      exact blk_ne h4 h3 (by decide) rfl
    · obtain ⟨_, c, h3⟩ := hs k z
      obtain ⟨_, c', h4⟩ := hk.lv.fs.blk.2 k e
      exact blk_ne h4 h3 (by decide) rfl
theorem Nw.refl (n : Nat) (rf : Option Nat) : Nw n rf rf := .inl rfl
/-- Next, at a pure state. -/
theorem cm_next {w W : World} {cb fb : Nat} {most : Int} {Z : Nat → Int} {N T : Nat} {s : Cst} {rf : Option Nat} (h : CM w W cb fb most Z N s rf) (hZ : ∀ i, 0 ≤ Z i ∧ Z i ≤ 255) (hN : N ≤ T) (hT : T ≤ 400000) (hr : CRn (dAt Z T most) s) :
    Calls Tryz.prog 12 #[.pointer (some ⟨cb, 0, none⟩)] W fun e w' => (e = .returned (.tuple #[.agg (inC 0 (blank 0) 0 0), .bool false]) ∧ Stp most Z N s ∧ ∃ rf', CM w w' cb fb most Z N s rf' ∧ Nw W.heap.size rf rf' ∧ Ch (fun k => k = cb ∨ k = fb) W w')
      ∨ (∃ x rf', e = .returned (.tuple #[.agg (iC x), .bool true]) ∧ s.ov = false ∧ (cstep (dAt Z T most) s).L = s.L ++ [x.1] ∧ CM w w' cb fb most Z N (cstep (dAt Z T most) s) rf' ∧ Nw W.heap.size rf rf' ∧ Ch (fun k => k = cb ∨ k = fb) W w' ∧ (Alike x.2 x.1.p ∧ In w' x.2 x.1.c ∧ ∀ b, Uses x.2 b → W.heap.size ≤ b ∧ rf' ≠ some b) ∧ s.P + 1 ≤ (cstep (dAt Z T most) s).P + (if (cstep (dAt Z T most) s).ov = true then 1 else 0) ∧ (cstep (dAt Z T most) s).P ≤ N) := by
  by_cases hov : s.ov = true
  · have h' := h
    unfold CM at h'
    rw [if_pos hov] at h'
    obtain ⟨⟨⟨fp, si, bd, hcn⟩, _, _⟩, _⟩ := h'
    refine (cnext_over hcn).mono ?_
    rintro e w' ⟨rfl, hb⟩
    exact .inl ⟨rfl, .inl hov, rf, h.below hb, .inl rfl, Below.ch hb⟩
  have hov' : s.ov = false := by simpa using hov
  have hC := h
  unfold CM at h
  rw [if_neg hov] at h
  obtain ⟨⟨si, bd, hk⟩, hP⟩ := h
  have hz := sh_bd hZ s.P
  have hn : s.P + (N - s.P) ≤ 400000 := by omega
  cases hR : decP (sh Z s.P) (N - s.P) most with
  | more =>
    refine (kl_more hk hz hn hR).mono ?_
    rintro e w' ⟨rfl, rf', k', c', n'⟩
    refine .inl ⟨rfl, .inr hR, rf', ?_, n', c'⟩
    unfold CM
    rw [if_neg hov]
    exact ⟨⟨si, bd, k'⟩, hP⟩
  | fault x =>
    have hD : dAt Z T most s.P = .fault x := by
      unfold dAt
      rw [decP_firm (sh Z s.P) (N - s.P) (T - s.P) most (by omega) (by rw [hR]; intro q; cases q), hR]
    have hcs : cstep (dAt Z T most) s = { s with ov := true, L := s.L ++ [⟨(3, 0, x.2), blank 0, noCn⟩] } := by
      unfold cstep
      rw [if_neg hov, hD]
    rw [hcs]
    refine (kl_fault hk hz hn hR).mono ?_
    rintro e w' ⟨rfl, k', c'⟩
    refine .inr ⟨(⟨(3, 0, x.2), blank 0, noCn⟩, blank 0), none, rfl, hov', rfl, ?_, .inr (.inl rfl), c', ⟨Alike.refl _, in_blank _ _, ?_⟩, ?_⟩
    · unfold CM
      rw [if_pos rfl]
      exact ⟨k', Nat.lt_of_lt_of_le hk.lv.fs.lt.1 c'.size, hk.fbl⟩
    · intro b hb
      obtain ⟨sl, hs, h0, _⟩ := hb
      exfalso
      rcases hs with q | q | q | q | q | q <;> (subst q; exact h0 rfl)
    · exact ⟨by simp, hP⟩
  | ok p c k =>
    have hdk := dec_ok most hz (by omega) hR
    have hD : dAt Z T most s.P = .ok p c k := by
      unfold dAt
      rw [decP_firm (sh Z s.P) (N - s.P) (T - s.P) most (by omega) (by rw [hR]; intro q; cases q), hR]
    have hcs : cstep (dAt Z T most) s = ⟨s.P + k, 1, !onP s.st p, s.L ++ [itm s.st p c]⟩ := by
      unfold cstep
      rw [if_neg hov, hD]
    rw [hcs]
    refine (kl_pkt hk hz hn hR).mono ?_
    rintro e w' ⟨q, rfl, ⟨ha, hi, hu⟩, hp, c'⟩
    have hx : iC (itm s.st p c, if (ansP s.st p).1 = 1 then q else blank 0) = inA (ansP s.st p) q := rfl
    have hit : Alike (if (ansP s.st p).1 = 1 then q else blank 0) (itm s.st p c).p ∧ In w' (if (ansP s.st p).1 = 1 then q else blank 0) (itm s.st p c).c ∧ ∀ b, Uses (if (ansP s.st p).1 = 1 then q else blank 0) b → W.heap.size ≤ b ∧ Uses q b := by
      unfold itm
      simp only
      by_cases h1 : (ansP s.st p).1 = 1
      · rw [if_pos h1, if_pos h1, if_pos h1]
        exact ⟨ha, hi, fun b hb => ⟨hu b hb, hb⟩⟩
      · rw [if_neg h1, if_neg h1, if_neg h1]
        refine ⟨Alike.refl _, in_blank _ _, fun b hb => ?_⟩
        obtain ⟨sl, hs, h0, _⟩ := hb
        exfalso
        rcases hs with z | z | z | z | z | z <;> (subst z; exact h0 rfl)
    by_cases ho : onP s.st p = true
    · unfold PkL at hp
      rw [if_pos ho] at hp
      obtain ⟨rf', k', n', u'⟩ := hp
      refine .inr ⟨(itm s.st p c, if (ansP s.st p).1 = 1 then q else blank 0), rf', by rw [hx], hov', rfl, ?_, n', c', ⟨hit.1, hit.2.1, fun b hb => ⟨(hit.2.2 b hb).1, u' b (hit.2.2 b hb).2⟩⟩, ?_⟩
      · unfold CM
        rw [if_neg (by rw [ho]; simp)]
        refine ⟨⟨0, bdP s.st bd p, ?_⟩, by simp only; omega⟩
        have : KL w w' cb fb most 1 0 (bdP s.st bd p) rf' (s.P + k) (sh Z (s.P + k)) (N - (s.P + k)) := by
          rw [← sh_sh, show N - (s.P + k) = N - s.P - k by omega]
          exact k'
        exact this
      · exact ⟨by simp only; omega, by simp only; omega⟩
    · unfold PkL at hp
      rw [if_neg ho] at hp
      have ho' : onP s.st p = false := by simpa using ho
      refine .inr ⟨(itm s.st p c, if (ansP s.st p).1 = 1 then q else blank 0), none, by rw [hx], hov', rfl, ?_, .inr (.inl rfl), c', ⟨hit.1, hit.2.1, fun b hb => ⟨(hit.2.2 b hb).1, by intro z; cases z⟩⟩, ?_⟩
      · unfold CM
        rw [if_pos (by rw [ho']; rfl)]
        exact ⟨hp, Nat.lt_of_lt_of_le hk.lv.fs.lt.1 c'.size, hk.fbl⟩
      · exact ⟨by simp only; omega, by simp only; omega⟩
end Go.Proofs.YtmfbkfgggdkfmaaGreatDoor.Co
namespace Go.Proofs.YtmfbkfgggdkfmaaGreatDoor.Co
open Go Go.RowKit
open Pkt (Pk Cn Sl In By Is Ss As pkCells Gd KindsAt Small)
set_option linter.unusedSimpArgs false
set_option linter.unusedVariables false
/-! ### all -/
/-- While all that is told is heard. -/
structure AlS (w W wx : World) (cb fb : Nat) (most : Int) (Z : Nat → Int) (N T : Nat) (s0 s : Cst) (rf0 rf : Option Nat) (v : Value) (LQ : List (Itm × Pk)) : Prop where
  cm : CM w wx cb fb most Z N s rf
  rn : CRn (dAt Z T most) s
  inr : InR wx W.heap.size rf v LQ
  eq : s0.L ++ LQ.map Prod.fst = s.L
  cnt : LQ.length ≤ s.P + (if s.ov = true then 1 else 0)
  pl : s.P ≤ N
  ch : Ch (fun k => k = cb ∨ k = fb) W wx
  nw : Nw W.heap.size rf0 rf
  cl : cb < W.heap.size ∧ fb < W.heap.size ∧ w.heap.size ≤ W.heap.size
theorem CM.le {w W : World} {cb fb : Nat} {most : Int} {Z : Nat → Int} {N : Nat} {s : Cst} {rf : Option Nat} (h : CM w W cb fb most Z N s rf) (ho : s.ov = false) : s.P ≤ N := by
  unfold CM at h
  rw [if_neg (by rw [ho]; simp)] at h
  exact h.2
section
variable {w W wx : World} {cb fb : Nat} {most : Int} {Z : Nat → Int} {N T : Nat} {s0 s : Cst} {rf0 rf : Option Nat} {v : Value} {LQ : List (Itm × Pk)}
theorem AlS.below {wy : World} (h : AlS w W wx cb fb most Z N T s0 s rf0 rf v LQ) (hb : Below wx.heap.size wx wy) : AlS w W wy cb fb most Z N T s0 s rf0 rf v LQ :=
  ⟨h.cm.below hb, h.rn, h.inr.below hb, h.eq, h.cnt, h.pl, h.ch.then (Below.ch hb), h.nw, h.cl⟩
/-- A call of the conn. -/
theorem AlS.next {wy : World} {s' : Cst} {rf' : Option Nat} (h : AlS w W wx cb fb most Z N T s0 s rf0 rf v LQ) (hc : CM w wy cb fb most Z N s' rf') (hn : Nw wx.heap.size rf rf') (hC : Ch (fun k => k = cb ∨ k = fb) wx wy) : InR wy W.heap.size rf' v LQ ∧ Ch (fun k => k = cb ∨ k = fb) W wy ∧ Nw W.heap.size rf0 rf' := by
  refine ⟨h.inr.keep hC ?_ ?_ hn, h.ch.then hC, h.nw.trans hn h.ch.size⟩
  · rintro g c hg hge (q | q)
    · have := h.cl; omega
    · have := h.cl; omega
  · rintro b b1 b2 b3 b4 (q | q)
    · have := h.cl; omega
    · have := h.cl; omega
theorem als_next (h : AlS w W wx cb fb most Z N T s0 s rf0 rf v LQ) (hZ : ∀ i, 0 ≤ Z i ∧ Z i ≤ 255) (hN : N ≤ T) (hT : T ≤ 400000) : Calls Tryz.prog 12 #[.pointer (some ⟨cb, 0, none⟩)] wx fun e w' => (e = .returned (.tuple #[.agg (inC 0 (blank 0) 0 0), .bool false]) ∧ Stp most Z N s ∧ ∃ rf', AlS w W w' cb fb most Z N T s0 s rf0 rf' v LQ)
      ∨ (∃ x s' rf', e = .returned (.tuple #[.agg (iC x), .bool true]) ∧ LQ.length ≤ N ∧ CM w w' cb fb most Z N s' rf' ∧ CRn (dAt Z T most) s' ∧ InR w' W.heap.size rf' v LQ ∧ (s0.L ++ (LQ ++ [x]).map Prod.fst = s'.L ∧ (LQ ++ [x]).length ≤ s'.P + (if s'.ov = true then 1 else 0) ∧ s'.P ≤ N) ∧ Ch (fun k => k = cb ∨ k = fb) W w' ∧ Nw W.heap.size rf0 rf' ∧ Alike x.2 x.1.p ∧ In w' x.2 x.1.c ∧ ∀ b, Uses x.2 b → wx.heap.size ≤ b ∧ rf' ≠ some b) := by
  refine (cm_next h.cm hZ hN hT h.rn).mono ?_
  rintro e w' (⟨rfl, hs, rf', c1, c2, c3⟩ | ⟨x, rf', rfl, hov, hL, c1, c2, c3, ⟨x1, x2, x3⟩, hP, hPN⟩)
  · obtain ⟨a1, a2, a3⟩ := h.next c1 c2 c3
    exact .inl ⟨rfl, hs, rf', c1, h.rn, a1, h.eq, h.cnt, h.pl, a2, a3, h.cl⟩
  · obtain ⟨a1, a2, a3⟩ := h.next c1 c2 c3
    have hc := h.cnt
    rw [if_neg (by rw [hov]; simp)] at hc
    have hle := h.cm.le hov
    refine .inr ⟨x, _, rf', rfl, by omega, c1, h.rn.step, a1, ⟨?_, ?_, hPN⟩, a2, a3, x1, x2, x3⟩
    · rw [hL, List.map_append, ← List.append_assoc, h.eq]
      rfl
    · rw [List.length_append, List.length_singleton]
      omega
end
/-- A row of one Input. -/
theorem wpList_build_in {ops : Array Oper} {rest : List Oper} {o : Oper} {a : Act} {w : World} {Q : Exit → Act → World → Prop} (hg : o.guard = none) (x : Operand) (ho : o.op = .buildSlice 28 1 #[(0, x)]) (cs : Array Value) (hx : a.eval x = .agg cs) (hs : cs.size = 28) (d : Option Tmp) (hd : o.dst = d) (n : Nat) (hn : w.heap.size = n)
    (h : wpList Tryz.prog ops Q rest (a.put d (.slice (some ⟨n, 0, none⟩) 1 1)) (w.alloc (.cells cs 41))) : wpList Tryz.prog ops Q (o :: rest) a w := by
  subst hd hn
  obtain ⟨ie, hie, hzz⟩ := Option.map_eq_some_iff.1 info41
  simp only [Prod.mk.injEq] at hzz
  refine wpList_buildSlice hg 28 41 1 _ ho cs ie _ Tryz.underlying28 hie hzz.1 (by rw [hzz.2.1]; omega) (by rw [hzz.2.1]; omega) ?_ h
  have e1 : ((#[(0, x)] : Array (Nat × Operand)).map fun (i, x) => (i, a.eval x)).toList = ([Value.agg cs].zipIdx 0).map fun x => (x.2, x.1) := by
    simp [hx]
  rw [e1, hzz.2.1]
  have := Great.fill_whole (s := 28) (by omega) [Value.agg cs] ((Array.range (1 * 28)).map ((Value.agg (inC 0 (blank 0) 0 0)).cells[· % (Value.agg (inC 0 (blank 0) 0 0)).cells.size]!)) (fun v hv => by simp only [List.mem_singleton] at hv; subst hv; exact hs) (by simp)
  rw [this]
  simp [Value.cells]
set_option maxRecDepth 100000 in
set_option maxHeartbeats 1500000 in
theorem all_any {w W : World} {cb fb : Nat} {most : Int} {Z : Nat → Int} {N T : Nat} {s : Cst} {rf : Option Nat} (h : CM w W cb fb most Z N s rf) (hZ : ∀ i, 0 ≤ Z i ∧ Z i ≤ 255) (hN : N ≤ T) (hT : T ≤ 300000) (hr : CRn (dAt Z T most) s) (hp : s.P ≤ N) :
    Calls Tryz.prog 9 #[.pointer (some ⟨cb, 0, none⟩), .int .i64 ((T : Int) + 1)] W fun e w' => ∃ v s' rf' LQ, e = .returned (.tuple #[v, .bool true]) ∧ Stp most Z N s' ∧ AlS w W w' cb fb most Z N T s s' rf rf' v LQ := by
  have hlt := h.lt
  have A0 := hidi (show AlS w W W cb fb most Z N T s s rf rf (.slice none 0 0) [] from ⟨h, hr, InR.nil _ _ _, by simp, Nat.zero_le _, hp, Ch.refl _ _, .inl rfl, hlt.1, hlt.2.1, hlt.2.2.2.2.size⟩)
  have HZ := hidi (And.intro hZ (And.intro hN (show T ≤ 400000 by omega)))
  clear h hZ hN hr hlt hp
  go_enter Tryz.func9, Tryz.ntmps9
  go_wp2_with fail
  go_loopg [6, 7, 8, 9] (T + 2) (fun gk s6 s7 s8 s9 wx => ∃ (i : Nat) (s' : Cst) (rf' : Option Nat) (v : Value) (LQ : List (Itm × Pk)), i + gk = T + 2 ∧ v = s6 ∧ s7 = .int .i64 i ∧ Hid (AlS w W wx cb fb most Z N T s s' rf rf' v LQ ∧ LQ.length = i))
  case atStart => exact ⟨0, s, rf, .slice none 0 0, [], by omega, rfl, rfl, A0.out, rfl⟩
  case round =>
    obtain ⟨i, s', rf', v, LQ, hi, rfl, rfl, KI⟩ := hrel
    clear A0
    have hiT : i ≤ T + 1 := by
      have h1 := KI.out.1.cnt
      have h2 := KI.out.2
      have h3 := KI.out.1.pl
      have h4 := HZ.out.2.1
      split at h1 <;> omega
    have hle : (i : Int) ≤ (T : Int) + 1 := by omega
    have hw1 : IntKind.i64.wrap ((i : Int) + 1) = (i : Int) + 1 := by rw [IntKind.wrap_i64]; omega
    have NX := hidi (als_next KI.out.1 HZ.out.1 HZ.out.2.1 HZ.out.2.2)
    have HLi := hidi KI.out.2
    have HWx := hidi KI.out.1.ch.size
    have HCL := hidi KI.out.1.cl
    have HVL := hidi (fun g (q : v.ownBlock = some g) => (KI.out.1.inr.row.lt g q).2)
    clear KI
    go_wp2_with fail
    go_must (go_at_call 12)
    refine NX.out.mono ?_
    clear NX
    rintro e w2 (⟨rfl, hs, rf2, k2⟩ | ⟨x, s2, rf2, rfl, hl, c1, c2, c3, c4, c5, c6, c7, c8, c9⟩)
    · have K2 := hidi (And.intro hs k2)
      clear hs k2
      go_upto_region 6 with (first | (refine wpList_store_row rfl 41 _ _ rfl w2.heap.size (inC 0 (blank 0) 0 0) rfl rfl 41 (inC 0 (blank 0) 0 0) (zero_in w2) in_info rfl (in_one _ _ _ _) ?_))
      obtain ⟨w3, hw3⟩ : ∃ W, W = (w2.alloc (.cells #[.int .i64 0, .int .i64 0, .int .i64 0, .bool false, .int .i64 0, .string ⟨#[]⟩, .bool false, .string ⟨#[]⟩, .slice none 0 0, .int .i64 0, .bool false, .bool false, .string ⟨#[]⟩, .bool false, .slice none 0 0, .bool false, .int .i64 0, .bool false, .string ⟨#[]⟩, .slice none 0 0, .int .i64 0, .bool false, .int .i64 0, .slice none 0 0, .slice none 0 0, .slice none 0 0, .int .i64 0, .int .i64 0] 41)).setRow w2.heap.size (inC 0 (blank 0) 0 0) := ⟨_, rfl⟩
      obtain ⟨a3, b3⟩ := ibox hw3
      rw [← hw3]
      have K3 := hidi (K2.out.2.below b3)
      have HS := hidi K2.out.1
      clear hw3 a3 b3 K2
      go_wp2_with fail
      go_ret2
      exact ⟨v, s', rf2, LQ, rfl, HS.out, K3.out⟩
    · have KX := hidi (And.intro c1 (And.intro c2 (And.intro c3 (And.intro c4 (And.intro c5 (And.intro c6 (And.intro c7 (And.intro c8 c9))))))))
      have HLN := hidi hl
      clear c1 c2 c3 c4 c5 c6 c7 c8 c9 hl
      go_upto_region 6 with (first | (refine wpList_store_row rfl 41 _ _ rfl w2.heap.size (iC x) rfl rfl 41 (inC 0 (blank 0) 0 0) (zero_in w2) in_info rfl (in_one _ _ _ _) ?_))
      obtain ⟨w3, hw3⟩ : ∃ W, W = (w2.alloc (.cells #[.int .i64 0, .int .i64 0, .int .i64 0, .bool false, .int .i64 0, .string ⟨#[]⟩, .bool false, .string ⟨#[]⟩, .slice none 0 0, .int .i64 0, .bool false, .bool false, .string ⟨#[]⟩, .bool false, .slice none 0 0, .bool false, .int .i64 0, .bool false, .string ⟨#[]⟩, .slice none 0 0, .int .i64 0, .bool false, .int .i64 0, .slice none 0 0, .slice none 0 0, .slice none 0 0, .int .i64 0, .int .i64 0] 41)).setRow w2.heap.size (iC x) := ⟨_, rfl⟩
      obtain ⟨a3, b3⟩ := ibox hw3
      obtain ⟨bx, hbx⟩ : ∃ bx, bx = w2.heap.size := ⟨_, rfl⟩
      rw [← hw3, ← hbx]
      rw [← hbx] at a3
      have A3 := hidi a3
      have B3 := hidi b3
      clear hw3 hbx a3 b3
      obtain ⟨va, vc, hv⟩ : ∃ a c, v = .slice a i c := by
        rcases KX.out.2.2.1.row.2 with ⟨q1, q2⟩ | ⟨g, cap, cur, q1, _⟩
        · exact ⟨none, 0, by rw [q1, ← HLi.out, q2]⟩
        · exact ⟨_, _, by rw [q1, HLi.out]⟩
      obtain ⟨g', cap', w4, hr4, hi4, hc4⟩ := InR.push (KX.out.2.2.1.below B3.out) x ⟨KX.out.2.2.2.2.2.2.1, In.congr KX.out.2.2.2.2.2.2.2.1 (fun b hb => B3.out.block b (In.lt KX.out.2.2.2.2.2.2.2.1 hb)), fun b hb => ⟨Nat.le_trans HWx.out (KX.out.2.2.2.2.2.2.2.2 b hb).1, Nat.lt_of_lt_of_le (In.lt KX.out.2.2.2.2.2.2.2.1 hb) B3.out.size, (KX.out.2.2.2.2.2.2.2.2 b hb).2, fun q => Nat.lt_irrefl _ (Nat.lt_of_lt_of_le (HVL.out b q) (KX.out.2.2.2.2.2.2.2.2 b hb).1)⟩⟩ (by have := HLi.out; omega) (Nat.le_trans KX.out.2.2.2.2.1.size B3.out.size)
      rw [HLi.out] at hr4 hi4
      have HR := hidi hr4
      have HC := hidi (And.intro hi4 hc4)
      clear hr4 hi4 hc4
      go_wp2_with (first | (refine wpList_load41 rfl (.tmp 8) rfl bx rfl (iC x) (0, 0) A3.out rfl ?_) | (refine wpList_build_in rfl (.tmp 24) rfl (iC x) rfl rfl _ rfl w3.heap.size rfl ?_) | (at_builtin; refine Lib.wpList_append_run _ rfl (.tmp 23) (.tmp 25) 28 28 rfl _ _ rfl rfl _ w4 HR.out ?_))
      go_roundg (T + 2 - (i + 1))
      case measure => omega
      case rel =>
        obtain ⟨hi4, hc4⟩ := HC.out
        have hr3 := (KX.out.2.2.1.below B3.out).row
        refine ⟨i + 1, s2, rf2, _, LQ ++ [x], by omega, rfl, by first | rfl | simp, ?_, by rw [List.length_append, HLi.out]; rfl⟩
        refine ⟨(KX.out.1.below B3.out).row hc4 (fun k hk => ⟨Nat.le_trans HCL.out.2.2 (own_ge hr3 hk), own_lt hr3 hk⟩), KX.out.2.1, hi4, KX.out.2.2.2.1.1, KX.out.2.2.2.1.2.1, KX.out.2.2.2.1.2.2, (KX.out.2.2.2.2.1.then (Below.ch B3.out)).trans hc4 (fun j hj hq => absurd (own_ge hr3 hq) (by omega)), KX.out.2.2.2.2.2.1, HCL.out⟩
end Go.Proofs.YtmfbkfgggdkfmaaGreatDoor.Co
namespace Go.Proofs.YtmfbkfgggdkfmaaGreatDoor.Co
open Go Go.RowKit
open Pkt (Pk Cn Sl In By Is Ss As pkCells Gd KindsAt Small wpList_load_wanted ck TT)
set_option linter.unusedSimpArgs false
set_option linter.unusedVariables false
theorem in_con {q : Pk} (h : Alike q (conP 10)) : inA (ansP 0 (conP 10)) q = inC 1 q 0 0 ∧ q.kind = 1 ∧ q.clean = true ∧ q.keep = 10 := by
  obtain ⟨s1, s2, s3, s4, s5, s6, rfl, _⟩ := h
  exact ⟨rfl, rfl, rfl, rfl⟩
theorem in_ping {q : Pk} (h : Alike q (blank 12)) : inA (ansP 1 (blank 12)) q = inC 1 q 0 0 ∧ q.kind = 12 := by
  obtain ⟨s1, s2, s3, s4, s5, s6, rfl, _⟩ := h
  exact ⟨rfl, rfl⟩
theorem in_first (q : Pk) : inA (ansP 0 (blank 12)) q = inC 3 (blank 0) 0 140 := rfl
theorem lits (L : List Int) (cs : Array Value) (h : cs.toList = L.map (fun x => .int .u8 x)) : ∀ i, i < L.length → cs[i]? = some (.int .u8 (listZ L i)) := by
  intro i hi
  have : cs[i]? = cs.toList[i]? := by simp
  rw [this, h, List.getElem?_map, List.getElem?_eq_getElem hi]
  simp [listZ, List.getD_eq_getElem?_getD, List.getElem?_eq_getElem hi]
set_option maxRecDepth 100000 in
set_option maxHeartbeats 8000000 in
theorem cknown_any (w : World) (hg : Gw w) : Calls Tryz.prog 6 #[] w fun e w' => e = .returned (.bool true) ∧ Below w.heap.size w w' := by
  have G := hidi hg
  clear hg
  go_enter Tryz.func6, Tryz.ntmps6
  go_wp2_with (first
    | (go_at_call 7; refine (kl_new 1000 0 (listZ (kbZ 0 10)) G.out (Below.refl _ _)).mono ?_; rintro e W1 ⟨rfl, h1, -⟩; have K1 := hidi h1; clear h1)
    | (go_at_call 11; refine (over_any K1.out.lv.cn).mono ?_; rintro e w' ⟨rfl, he⟩; obtain rfl := he.symm))
  obtain ⟨cb, hcb⟩ : ∃ cb, cb = w.heap.size + 1 := ⟨_, rfl⟩
  obtain ⟨fb, hfb⟩ : ∃ fb, fb = w.heap.size := ⟨_, rfl⟩
  rw [← hcb, show KL w W1 cb w.heap.size = KL w W1 cb fb by rw [hfb]] at K1
  rw [← hcb]
  clear hcb hfb
  obtain ⟨bd0, hbd0⟩ : ∃ b : Int, b = max 0 0 := ⟨_, rfl⟩
  rw [← hbd0] at K1
  clear hbd0
  go_must (go_at_call 8)
  refine (kl_lit [16, 12, 0, 4, 77, 81, 84, 84, 4, 2, 0, 10, 0, 0, 192] _ K1.out (listZ (kbZ 0 10)) (lits _ _ rfl) (by decide) (by decide) (by decide) (by intro i hi; omega) (by decide)).mono ?_
  rintro e W2 ⟨rfl, rf2, k2, -, -⟩
  have K2 := hidi (show KL w W2 cb fb 1000 0 0 bd0 rf2 0 (listZ (kbZ 0 10)) 15 from k2)
  have kbz := hidi (kb_bd 0 10 (by decide) (by decide))
  clear k2 K1
  go_wp2_with fail
  go_must (go_at_call 12)
  refine (kl_pkt K2.out kbz.out (by decide) (show decP (listZ (kbZ 0 10)) 15 1000 = .ok (conP 10) noCn 14 from kb_con 15 (.inr rfl) 0 10 (by decide) (by decide))).mono ?_
  rintro e W3 ⟨q, rfl, ⟨ha, -, -⟩, hp, -⟩
  obtain ⟨hin, q1, q2, q3⟩ := in_con ha
  rw [hin]
  unfold PkL at hp
  rw [if_pos (show onP 0 (conP 10) = true from rfl)] at hp
  obtain ⟨rf3, k3, -, -⟩ := hp
  have K3 := hidi (show KL w W3 cb fb 1000 1 0 15 rf3 14 (sh (listZ (kbZ 0 10)) 14) 1 from k3)
  clear k3 ha hin K2
  go_upto_region 6 with (first | (refine wpList_store_row rfl 41 _ _ rfl W3.heap.size (inC 1 q 0 0) rfl rfl 41 (inC 0 (blank 0) 0 0) (zero_in W3) in_info rfl (in_one _ _ _ _) ?_))
  obtain ⟨W4, hW4⟩ : ∃ W4, W4 = (W3.alloc (.cells #[.int .i64 0, .int .i64 0, .int .i64 0, .bool false, .int .i64 0, .string ⟨#[]⟩, .bool false, .string ⟨#[]⟩, .slice none 0 0, .int .i64 0, .bool false, .bool false, .string ⟨#[]⟩, .bool false, .slice none 0 0, .bool false, .int .i64 0, .bool false, .string ⟨#[]⟩, .slice none 0 0, .int .i64 0, .bool false, .int .i64 0, .slice none 0 0, .slice none 0 0, .slice none 0 0, .int .i64 0, .int .i64 0] 41)).setRow W3.heap.size (inC 1 q 0 0) := ⟨_, rfl⟩
  obtain ⟨a4, b4⟩ := ibox hW4
  obtain ⟨bx, hbx⟩ : ∃ bx, bx = W3.heap.size := ⟨_, rfl⟩
  rw [← hW4, ← hbx]
  rw [← hbx] at a4
  have K4 := hidi (K3.out.below b4)
  have HBX := hidi (show w.heap.size ≤ bx by rw [hbx]; exact K3.out.bel.size)
  have A4 := hidi a4
  have e0 : W4.cell? ⟨bx, 0, none⟩ = some (.int .i64 1) := box_cells a4 0 _ rfl
  have e1 : W4.cell? ⟨bx, 1, none⟩ = some (.int .i64 1) := (by have h := box_cells a4 1 (.int .i64 q.kind) rfl; rw [q1] at h; exact h)
  have e3 : W4.cell? ⟨bx, 3, none⟩ = some (.bool true) := (by have h := box_cells a4 3 (.bool q.clean) rfl; rw [q2] at h; exact h)
  have e4 : W4.cell? ⟨bx, 4, none⟩ = some (.int .i64 10) := (by have h := box_cells a4 4 (.int .i64 q.keep) rfl; rw [q3] at h; exact h)
  clear hW4 hbx a4 b4 K3 q1 q2 q3
  have shz := hidi (fun i => kbz.out (14 + i))
  go_wp2_with fail
  clear e0 e1 e3 e4
  go_must (go_at_call 12)
  refine (kl_more K4.out shz.out (by decide) (ping_more 0 10)).mono ?_
  rintro e W5 ⟨rfl, rf5, k5, c5, -⟩
  have K5 := hidi k5
  have A5 := hidi (K4.out.oth (mk_ch c5) A4.out ⟨by decide, by decide, by decide⟩)
  clear k5 c5 K4 A4
  go_wp2_with fail
  go_must (go_at_call 8)
  refine (kl_lit [0] _ K5.out (sh (listZ (kbZ 0 10)) 14) (lits _ _ rfl) (by decide) (by decide) (by decide) (fun _ _ => rfl) (by decide)).mono ?_
  rintro e W6 ⟨rfl, rf6, k6, c6, -⟩
  have K6 := hidi (show KL w W6 cb fb 1000 1 0 15 rf6 14 (sh (listZ (kbZ 0 10)) 14) 2 from k6)
  have A6 := hidi (K5.out.oth c6 A5.out ⟨by decide, by decide, by decide⟩)
  clear k6 c6 K5 A5
  go_wp2_with fail
  go_must (go_at_call 12)
  refine (kl_pkt K6.out shz.out (by decide) (ping_ok 0 10)).mono ?_
  rintro e W7 ⟨q', rfl, ⟨ha, -, -⟩, hp, hc⟩
  obtain ⟨hin, q1⟩ := in_ping ha
  rw [hin]
  unfold PkL at hp
  rw [if_pos (show onP 1 (blank 12) = true from rfl)] at hp
  obtain ⟨rf7, k7, -, -⟩ := hp
  have K7 := hidi (show KL w W7 cb fb 1000 1 0 15 rf7 16 (sh (sh (listZ (kbZ 0 10)) 14) 2) 0 from k7)
  have A7 := hidi (K6.out.oth (mk_ch hc) A6.out ⟨by decide, by decide, by decide⟩)
  clear k7 ha hin K6 A6 hc
  go_upto_region 11 with (first | (refine wpList_store_row rfl 41 _ _ rfl bx (inC 1 q' 0 0) rfl rfl 41 (inC 1 q 0 0) A7.out in_info rfl (in_one _ _ _ _) ?_))
  obtain ⟨W8, hW8⟩ : ∃ W8, W8 = W7.setRow bx (inC 1 q' 0 0) := ⟨_, rfl⟩
  have a8 : W8.heap[bx]? = some (.cells (inC 1 q' 0 0) 41 (0, 0)) := by rw [hW8]; exact setRow_at A7.out
  have hbxl : w.heap.size ≤ bx := HBX.out
  have K8 := hidi (show KL w W8 cb fb 1000 1 0 15 rf7 16 (sh (sh (listZ (kbZ 0 10)) 14) 2) 0 from K7.out.keep (S := fun k => k = bx) (by rw [hW8]; exact ch_row) (fun q => blk_ne K7.out.lv.cn A7.out (by decide) q) (fun q => by obtain ⟨c', h2⟩ := K7.out.lv.fs.blk.1; exact blk_ne h2 A7.out (by decide) q) (fun k e q => by obtain ⟨_, c', h2⟩ := K7.out.lv.fs.blk.2 k e; exact blk_ne h2 A7.out (by decide) q) (fun k q => by rw [q]; exact hbxl))
  rw [← hW8]
  have e0 : W8.cell? ⟨bx, 0, none⟩ = some (.int .i64 1) := box_cells a8 0 _ rfl
  have e1 : W8.cell? ⟨bx, 1, none⟩ = some (.int .i64 12) := (by have h := box_cells a8 1 (.int .i64 q'.kind) rfl; rw [q1] at h; exact h)
  clear hW8 a8 K7 A7 q1 hbxl
  go_wp2_with fail
  clear e0 e1
  go_loopg [5] 15 (fun gk s5 wx => ∃ i : Nat, i + gk = 15 ∧ s5 = .int .i64 i ∧ Hid (KL w wx cb fb 1000 1 (i : Int) 15 rf7 16 (sh (sh (listZ (kbZ 0 10)) 14) 2) 0))
  case atStart => exact ⟨0, by omega, rfl, K8.out⟩
  case round =>
    obtain ⟨i, hi, rfl, KI⟩ := hrel
    clear K8
    by_cases hin : i < 15
    · have hlt : (i : Int) < 15 := by omega
      have hw1 : IntKind.i64.wrap ((i : Int) + 1) = (i : Int) + 1 := by rw [IntKind.wrap_i64]; omega
      have hl : lateP 15 ((i : Int) + 1) = false := by unfold lateP; simp; omega
      have TK := hidi (kl_tick KI.out (by omega))
      rw [hl] at TK
      clear hl KI
      go_wp2_with fail
      go_must (go_at_call 13)
      refine TK.out.mono ?_
      rintro e W9 ⟨rfl, k9, -⟩
      have K9 := hidi k9
      clear k9 TK
      go_wp2_with fail
      go_roundg (15 - (i + 1))
      case measure => omega
      case rel => exact ⟨i + 1, by omega, by first | rfl | simp, by have := K9.out; rw [show ((i + 1 : Nat) : Int) = (i : Int) + 1 by omega]; exact this⟩
    · have hi15 : i = 15 := by omega
      subst hi15
      have hlt : ¬ ((15 : Nat) : Int) < 15 := by omega
      obtain ⟨n0, hn0⟩ : ∃ n, n = wr.heap.size := ⟨_, rfl⟩
      have ND := hidi (kl_new 1000 0 (listZ pgZ) G.out KI.out.bel)
      rw [← hn0] at ND
      have HC := hidi (show cb < n0 ∧ fb < n0 ∧ (∀ k, rf7 = some k → k < n0) ∧ w.heap.size ≤ n0 by rw [hn0]; exact ⟨KI.out.lv.cn.lt, KI.out.lv.fs.lt.1, KI.out.lv.fs.lt.2, KI.out.bel.size⟩)
      have HN := hidi hn0
      clear hin hi hn0
      go_wp2_with fail
      go_must (go_at_call 7)
      refine ND.out.mono ?_
      clear ND
      rintro e X1 ⟨rfl, d1, hb⟩
      have KC1 := hidi (KI.out.below (by rw [← HN.out]; exact hb))
      have D1 := hidi d1
      clear d1 hb KI
      go_wp2_with fail
      go_must (go_at_call 8)
      refine (kl_lit [192, 0] _ D1.out (listZ pgZ) (lits _ _ rfl) (by decide) (by decide) (by decide) (by intro i hi; omega) (by decide)).mono ?_
      rintro e X2 ⟨rfl, rg2, d2, c2, n2⟩
      have hge1 : ∀ k, Mk (n0 + 1) n0 none k → n0 ≤ k := by
        rintro k (q | q | q)
        · omega
        · omega
        · cases q
      have KC2 := hidi (KC1.out.young c2 hge1 HC.out.1 HC.out.2.1 HC.out.2.2.1 HC.out.2.2.2)
      have D2 := hidi (show KL w X2 (n0 + 1) n0 1000 0 0 (max 0 0) rg2 0 (listZ pgZ) 2 from d2)
      clear d2 c2 n2 hge1 D1 KC1
      go_wp2_with fail
      go_must (go_at_call 12)
      refine (kl_pkt D2.out pg_bd (by decide) pg_ok).mono ?_
      rintro e X3 ⟨q2, rfl, -, hp, hc⟩
      rw [in_first]
      unfold PkL at hp
      rw [if_neg (show ¬ onP 0 (blank 12) = true from by decide)] at hp
      have KC3 := hidi (KC2.out.young hc (by rintro k (q | q) <;> omega) HC.out.1 HC.out.2.1 HC.out.2.2.1 HC.out.2.2.2)
      have D3 := hidi hp
      clear hp hc D2 KC2
      go_upto_region 21 with (first | (refine wpList_store_row rfl 41 _ _ rfl X3.heap.size (inC 3 (blank 0) 0 140) rfl rfl 41 (inC 0 (blank 0) 0 0) (zero_in X3) in_info rfl (in_one _ _ _ _) ?_))
      obtain ⟨X4, hX4⟩ : ∃ X4, X4 = (X3.alloc (.cells #[.int .i64 0, .int .i64 0, .int .i64 0, .bool false, .int .i64 0, .string ⟨#[]⟩, .bool false, .string ⟨#[]⟩, .slice none 0 0, .int .i64 0, .bool false, .bool false, .string ⟨#[]⟩, .bool false, .slice none 0 0, .bool false, .int .i64 0, .bool false, .string ⟨#[]⟩, .slice none 0 0, .int .i64 0, .bool false, .int .i64 0, .slice none 0 0, .slice none 0 0, .slice none 0 0, .int .i64 0, .int .i64 0] 41)).setRow X3.heap.size (inC 3 (blank 0) 0 140) := ⟨_, rfl⟩
      obtain ⟨a4, b4⟩ := ibox hX4
      obtain ⟨by_, hby⟩ : ∃ bx, bx = X3.heap.size := ⟨_, rfl⟩
      rw [← hX4, ← hby]
      rw [← hby] at a4
      have KC4 := hidi (KC3.out.below b4)
      have D4 := hidi (D3.out.below b4)
      have TK := hidi (kl_tick KC4.out (by decide))
      rw [show lateP 15 (((15 : Nat) : Int) + 1) = true from rfl] at TK
      have A4 := hidi a4
      clear hX4 hby a4 b4 KC3 D3
      go_wp2_with fail
      go_must (go_at_call 13)
      refine TK.out.mono ?_
      rintro e X5 ⟨rfl, k5, c5⟩
      have a5 := KC4.out.oth (mk_ch c5) A4.out ⟨by decide, by decide, by decide⟩
      have f0 : X5.cell? ⟨by_, 0, none⟩ = some (.int .i64 3) := box_cells a5 0 _ rfl
      have f27 : X5.cell? ⟨by_, 27, none⟩ = some (.int .i64 140) := box_cells a5 27 _ rfl
      obtain ⟨fp, si, bd, hcn⟩ := D4.out.cn
      have OV := hidi (over_any (hcn.keep (c5.block _ hcn.lt (by have := HC.out; rintro (q | q) <;> omega))))
      have HB := hidi k5.bel
      clear k5 c5 a5 A4 TK KC4 D4 hcn
      go_wp2_with (first | (go_at_call 11; refine OV.out.mono ?_; rintro e w' ⟨rfl, he⟩; obtain rfl := he.symm))
      go_ret
      exact ⟨rfl, HB.out⟩
end Go.Proofs.YtmfbkfgggdkfmaaGreatDoor.Co
namespace Go.Proofs.YtmfbkfgggdkfmaaGreatDoor.Co
open Go Go.RowKit
open Pkt (Pk Cn Sl In By Is Ss As pkCells Gd KindsAt Small)
set_option linter.unusedSimpArgs false
set_option linter.unusedVariables false
/-! ### One of a row of Inputs -/
theorem irow_at : ∀ (L : List (Itm × Pk)) (j i : Nat) (x : Itm × Pk), L[j]? = some x → i < 28 → (irow L)[j * 28 + i]? = (iC x).toList[i]?
  | [], j, i, x, h, _ => by simp at h
  | y :: L, 0, i, x, h, hi => by
    simp at h; subst h
    show ((iC y).toList ++ irow L)[0 * 28 + i]? = _
    rw [Nat.zero_mul, Nat.zero_add]
    exact List.getElem?_append_left (show i < 28 from hi)
  | y :: L, j + 1, i, x, h, hi => by
    show ((iC y).toList ++ irow L)[(j + 1) * 28 + i]? = _
    have hs : (iC y).toList.length = 28 := rfl
    rw [List.getElem?_append_right (by rw [hs]; omega), hs, show (j + 1) * 28 + i - 28 = j * 28 + i by omega]
    exact irow_at L j i x (by simpa using h) hi
theorem inr_at {w : World} {B : Nat} {v : Value} {L : List (Itm × Pk)} {j : Nat} {x : Itm × Pk} (h : w.ownsRow B 41 28 v L.length (irow L)) (hj : L[j]? = some x) : ∃ g cap, v = .slice (some ⟨g, 0, none⟩) L.length cap ∧ L.length ≤ cap ∧ g < w.heap.size ∧ w.rangeAt g (j * 28) (iC x).toList := by
  have hjl : j < L.length := (List.getElem?_eq_some_iff.1 hj).1
  rcases h.2 with ⟨_, h0⟩ | ⟨g, cap, cur, rfl, _, hg, hnc, _, hcs, ht⟩
  · omega
  · refine ⟨g, cap, rfl, hnc, (Array.getElem?_eq_some_iff.1 hg).1, fun i u hu => ?_⟩
    have hi : i < 28 := (List.getElem?_eq_some_iff.1 hu).1
    have h1 := irow_at L j i x hj hi
    rw [hu, ← ht, List.getElem?_take_of_lt (by have : j * 28 + 28 ≤ L.length * 28 := by omega
                                               omega)] at h1
    rw [cell_of_row w g (j * 28 + i) cur 41 (0, 0) hg]
    simpa using h1
theorem range_below {w w' : World} {g off : Nat} {xs : List Value} (h : w.rangeAt g off xs) (hb : Below w.heap.size w w') (hg : g < w.heap.size) : w'.rangeAt g off xs := fun i u hu => (hb.cell (p := ⟨g, off + i, none⟩) hg).trans (h i u hu)
theorem yields_mid41 {o : Oper} {a : Act} {x : Operand} {g off : Nat} {cs : Array Value} {w : World} (ho : o.op = .load 41 x) (hx : a.eval x = .pointer (some ⟨g, off, none⟩)) (hg : w.rangeAt g off cs.toList) (hs : cs.size = 28) :
    (execOp a.eval o).run Tryz.prog w = .ok (.value (.agg cs)) w := by
  have hl : (loadVar 41 ⟨g, off, none⟩).run Tryz.prog w = .ok (.agg cs.toList.toArray) w := run_loadVar_mid w g off 41 cs.toList _ hg Tryz.underlying41 rfl (by rw [Array.length_toList, hs]; kernel_rfl)
  rw [Array.toArray_toList] at hl
  unfold execOp
  simp only [ho, hx, Instr.loadAt, Instr.sureAddr, Sem.run_bind, Sem.run_pure, Result.andThen_ok, hl]
/-! ### Over, and the copy -/
theorem cm_over {w W : World} {cb fb : Nat} {most : Int} {Z : Nat → Int} {N : Nat} {s : Cst} {rf : Option Nat} (h : CM w W cb fb most Z N s rf) : Calls Tryz.prog 11 #[.pointer (some ⟨cb, 0, none⟩)] W fun e w' => e = .returned (.bool s.ov) ∧ w' = W := by
  unfold CM at h
  by_cases q : s.ov = true
  · rw [if_pos q] at h
    obtain ⟨⟨⟨fp, si, bd, hc⟩, _, _⟩, _⟩ := h
    rw [q]
    exact over_any hc
  · rw [if_neg q] at h
    obtain ⟨⟨si, bd, hk⟩, -⟩ := h
    have e : s.ov = (s.st == 2) := by
      rw [show s.ov = false by simpa using q]
      rcases hk.s01 with z | z <;> rw [z] <;> rfl
    rw [e]
    exact over_any hk.lv.cn
theorem own_by {w : World} {B n : Nat} {v : Value} {z : Nat → Int} (h : w.ownsRow B 5 1 v n (cellsOf z n)) (hz : ∀ i, 0 ≤ z i ∧ z i ≤ 255) : ∃ l : Sl, v = .slice l.a l.n l.c ∧ l.n = n ∧ By w l z := by
  rcases h.2 with ⟨rfl, h0⟩ | ⟨g, cap, cur, rfl, _, hg, hnc, _⟩
  · exact ⟨⟨none, 0, 0⟩, rfl, h0.symm, Nat.le_refl _, hz, .inl rfl⟩
  · refine ⟨⟨some ⟨g, 0, none⟩, n, cap⟩, rfl, rfl, hnc, hz, .inr ⟨g, 0, rfl, fun i hi => ?_⟩⟩
    have hi' : i < n := hi
    have := h.cells (g := g) rfl i (.int .u8 (z i)) (by simp [cellsOf, hi'])
    simpa [addr_at] using this
theorem CM.start {w W : World} {cb fb : Nat} {most bd : Int} {rf : Option Nat} {Z : Nat → Int} {N : Nat} (h : KL w W cb fb most 0 0 bd rf 0 Z (0 + N)) : CM w W cb fb most Z N ⟨0, 0, false, []⟩ rf := by
  unfold CM
  rw [if_neg (by simp)]
  refine ⟨⟨0, bd, ?_⟩, Nat.zero_le _⟩
  rw [sh_zero, Nat.sub_zero]
  rw [Nat.zero_add] at h
  exact h
/-! ### What the law asks of each -/
end Go.Proofs.YtmfbkfgggdkfmaaGreatDoor.Co
