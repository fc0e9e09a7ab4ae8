import Derived.Test.YtenaliaefbkbcaaGreatRk
import Derived.Test.YtenaliaefbkbcaaGreatCg
namespace Go.Proofs.YtenaliaefbkbcaaGreat.Li
open Go Go.RowKit
set_option linter.unusedSimpArgs false
set_option linter.unusedVariables false
theorem own_sl {w : World} {B e s n : Nat} {v : Value} {xs : List Value} (h : w.ownsRow B e s v n xs) : ∃ a c, v = .slice a n c := by
  rcases h.2 with ⟨h1, h2⟩ | ⟨g, cap, cur, h1, _⟩
  · subst h2; exact ⟨_, _, h1⟩
  · exact ⟨_, _, h1⟩
theorem own_below {w w' : World} {B e s n : Nat} {v : Value} {xs : List Value} (h : w.ownsRow B e s v n xs) (hb : Below w.heap.size w w') : w'.ownsRow B e s v n xs := own_ch h (Below.ch (S := fun _ => False) hb) (fun _ _ q => q)
theorem below_drewN {n m : Nat} {a b : World} (h : Below n a b) : Below n a (b.drewN m) := ⟨h.os, h.tape, h.output, h.size, h.block⟩
/-! ### Rows of two cells: a text and a value -/
abbrev PV := ByteArray × Value
def pcs (x : PV) : List Value := [.string x.1, x.2]
def prow (L : List PV) : List Value := L.flatMap pcs
theorem prow_app (L M : List PV) : prow (L ++ M) = prow L ++ prow M := by simp [prow]
theorem prow_len (L : List PV) : (prow L).length = L.length * 2 := by
  induction L with
  | nil => rfl
  | cons x r ih =>
    show (pcs x ++ prow r).length = _
    rw [List.length_append, ih]
    simp [pcs]
    omega
theorem prow_get : ∀ (L : List PV) (i : Nat) (x : PV), L[i]? = some x → (prow L)[2 * i]? = some (.string x.1) ∧ (prow L)[2 * i + 1]? = some x.2
  | [], i, x, h => by simp at h
  | y :: r, 0, x, h => by
    simp at h
    subst h
    exact ⟨rfl, rfl⟩
  | y :: r, i + 1, x, h => by
    have := prow_get r i x (by simpa using h)
    exact this
theorem prow_cell {w : World} {B e : Nat} {v : Value} {L : List PV} (h : w.ownsRow B e 2 v L.length (prow L)) {j : Nat} (hj : j < L.length) : ∃ g c, v = .slice (some ⟨g, 0, none⟩) L.length c ∧ L.length ≤ c ∧ ∀ i (hi : i < L.length), w.cell? ⟨g, i * 2, none⟩ = some (.string L[i].1) ∧ w.cell? ⟨g, i * 2 + 1, none⟩ = some L[i].2 := by
  rcases h.2 with ⟨_, h2⟩ | ⟨g, cap, cur, h1, h2, h3, h4, h5, h6, h7⟩
  · omega
  · refine ⟨g, cap, h1, h4, fun i hi => ?_⟩
    have a := prow_get L i L[i] (List.getElem?_eq_getElem hi)
    have hx : ∀ x v, x < L.length * 2 → (prow L)[x]? = some v → w.cell? ⟨g, x, none⟩ = some v := fun x v hx hv => by
      have := congrArg (fun l => l[x]?) h7
      simp only [List.getElem?_take, if_pos hx] at this
      rw [hv] at this
      simp [World.cell?, h3]
      simpa using this
    exact ⟨hx _ _ (by omega) (by rw [Nat.mul_comm]; exact a.1), hx _ _ (by omega) (by rw [Nat.mul_comm]; exact a.2)⟩
/-- Where a text stands first. -/
def ix : List PV → ByteArray → Option Nat
  | [], _ => none
  | x :: r, k => if x.1 = k then some 0 else (ix r k).map (· + 1)
def ixI (L : List PV) (k : ByteArray) : Int := match ix L k with | some i => (i : Int) | none => -1
theorem ix_some : ∀ {L : List PV} {k : ByteArray} {i : Nat}, ix L k = some i → ∃ h : i < L.length, L[i].1 = k ∧ ∀ j (hj : j < i), (L[j]'(by omega)).1 ≠ k
  | [], k, i, h => by simp [ix] at h
  | x :: r, k, i, h => by
    unfold ix at h
    by_cases e : x.1 = k
    · rw [if_pos e] at h
      cases h
      exact ⟨by simp, e, fun j hj => by omega⟩
    · rw [if_neg e] at h
      obtain ⟨i', h1, rfl⟩ := Option.map_eq_some_iff.1 h
      obtain ⟨h2, h3, h4⟩ := ix_some h1
      refine ⟨by simpa using h2, by simpa using h3, fun j hj => ?_⟩
      cases j with
      | zero => exact e
      | succ j => simpa using h4 j (by omega)
theorem ix_none : ∀ {L : List PV} {k : ByteArray}, ix L k = none ↔ ∀ x ∈ L, x.1 ≠ k
  | [], k => by simp [ix]
  | x :: r, k => by
    unfold ix
    by_cases e : x.1 = k
    · rw [if_pos e]
      simp [e]
    · rw [if_neg e]
      simp [e, ix_none (L := r)]
theorem ix_first : ∀ {L : List PV} {k : ByteArray} (i : Nat) (h : i < L.length), L[i].1 = k → (∀ j (hj : j < i), (L[j]'(by omega)).1 ≠ k) → ix L k = some i
  | [], k, i, h, _, _ => by simp at h
  | x :: r, k, 0, h, h1, _ => by simp at h1; simp [ix, h1]
  | x :: r, k, i + 1, h, h1, h2 => by
    have e : x.1 ≠ k := h2 0 (by omega)
    have := ix_first (L := r) (k := k) i (by simpa using h) (by simpa using h1) (fun j hj => by simpa using h2 (j + 1) (by omega))
    simp [ix, e, this]
theorem ixI_some {L : List PV} {k : ByteArray} {i : Nat} (h : ix L k = some i) : ixI L k = i := by unfold ixI; rw [h]
theorem ixI_none {L : List PV} {k : ByteArray} (h : ix L k = none) : ixI L k = -1 := by unfold ixI; rw [h]
theorem ba_list_inj {a b : ByteArray} (h : unB a = unB b) : a = b := by
  cases a; cases b
  unfold unB at h
  simp only [ByteArray.mk.injEq]
  exact Array.toList_inj.1 h
theorem teq (a b : ByteArray) : (a.toList == b.toList) = decide (a = b) := by
  rw [eq_two]
  by_cases h : a = b
  · simp [h]
  · have : ¬ unB a = unB b := fun q => h (ba_list_inj q)
    simp [h, this]
set_option maxRecDepth 100000 in
set_option maxHeartbeats 4000000 in
/-- The key's place among a filter's entries. -/
theorem place37_any {w : World} {B fb o : Nat} {v : Value} {L : List PV} (hp : w.cell? ⟨fb, o + 1, none⟩ = some v) (h : w.ownsRow B 44 2 v L.length (prow L)) (hm : L.length ≤ 1000000) (k : ByteArray) :
    Calls Tryz.prog 37 #[.pointer (some ⟨fb, o, none⟩), .string k] w fun e w' => e = .returned (.int .i64 (ixI L k)) ∧ w' = w := by
  obtain ⟨a, c, rfl⟩ := own_sl h
  have H := hidi (And.intro h hm)
  obtain ⟨n, hn⟩ : ∃ n, n = L.length := ⟨_, rfl⟩
  rw [← hn] at hp
  have HN := hidi hn
  clear h hm hn
  go_enter Tryz.func37, Tryz.ntmps37
  go_wp2_with fail
  go_loopg [5, 11] n (fun gk s5 s11 wx => ∃ j : Nat, j + gk = n ∧ s11 = .int .i64 j ∧ wx = w ∧ Hid (∀ i (hi : i < j) (hl : i < L.length), L[i].1 ≠ k))
  case atStart => exact ⟨0, by omega, rfl, rfl, fun i hi => by omega⟩
  case round =>
    obtain ⟨j, hj, rfl, rfl, HI⟩ := hrel
    by_cases hjn : j < n
    · have hlt : (j : Int) < (n : Int) := by omega
      have hge : (0 : Int) ≤ (j : Int) := by omega
      have hw1 : IntKind.i64.wrap ((j : Int) + 1) = (j : Int) + 1 := by rw [IntKind.wrap_i64]; have := H.out.2; have := HN.out; omega
      have hjl : j < L.length := by rw [← HN.out]; exact hjn
      obtain ⟨g, c2, hv, hle, hcell⟩ := prow_cell H.out.1 hjl
      rw [← HN.out] at hv
      simp only [Value.slice.injEq, true_and] at hv
      obtain ⟨rfl, rfl⟩ := hv
      obtain ⟨y, hy⟩ : ∃ y, y = L[j].1 := ⟨_, rfl⟩
      obtain ⟨k0, k1⟩ := hcell j hjl
      rw [← hy] at k0
      clear hle hcell
      by_cases hyk : y = k
      · have hey : (y.toList == k.toList) = true := by rw [teq]; exact decide_eq_true hyk
        have HX := hidi (ix_first (L := L) j hjl (hy ▸ hyk) (fun i hi => HI.out i hi (by omega)))
        clear hy hyk
        go_wp2
        go_ret
        exact ⟨by rw [ixI_some HX.out]; rfl, rfl⟩
      · have hey : (y.toList == k.toList) = false := by rw [teq]; exact decide_eq_false hyk
        have HI2 : Hid (∀ i (hi : i < j + 1) (hl : i < L.length), L[i].1 ≠ k) := fun i hi hl => by
          by_cases e : i = j
          · subst e; exact hy ▸ hyk
          · exact HI.out i (by omega) hl
        clear hy hyk
        go_wp2
        go_roundg (n - (j + 1))
        case measure => omega
        case rel => exact ⟨j + 1, by omega, by first | rfl | simp, rfl, HI2.out⟩
    · have hlt : ¬ (j : Int) < (n : Int) := by omega
      have HX : Hid (ix L k = none) := hidi (ix_none.2 (fun x hx => by
        obtain ⟨i, hi, rfl⟩ := List.mem_iff_getElem.1 hx
        exact HI.out i (by have := HN.out; omega) hi))
      go_wp2_with fail
      go_ret
      exact ⟨by rw [ixI_none HX.out]; rfl, rfl⟩
set_option maxRecDepth 100000 in
set_option maxHeartbeats 4000000 in
/-- The filter's place. -/
theorem place29_any {w : World} {B sb : Nat} {v : Value} {L : List PV} (hp : w.cell? ⟨sb, 0, none⟩ = some v) (h : w.ownsRow B 76 2 v L.length (prow L)) (hm : L.length ≤ 1000000) (k : ByteArray) :
    Calls Tryz.prog 29 #[.pointer (some ⟨sb, 0, none⟩), .string k] w fun e w' => e = .returned (.int .i64 (ixI L k)) ∧ w' = w := by
  obtain ⟨a, c, rfl⟩ := own_sl h
  have H := hidi (And.intro h hm)
  obtain ⟨n, hn⟩ : ∃ n, n = L.length := ⟨_, rfl⟩
  rw [← hn] at hp
  have HN := hidi hn
  clear h hm hn
  go_enter Tryz.func29, Tryz.ntmps29
  go_wp2_with fail
  go_loopg [5, 11] n (fun gk s5 s11 wx => ∃ j : Nat, j + gk = n ∧ s11 = .int .i64 j ∧ wx = w ∧ Hid (∀ i (hi : i < j) (hl : i < L.length), L[i].1 ≠ k))
  case atStart => exact ⟨0, by omega, rfl, rfl, fun i hi => by omega⟩
  case round =>
    obtain ⟨j, hj, rfl, rfl, HI⟩ := hrel
    by_cases hjn : j < n
    · have hlt : (j : Int) < (n : Int) := by omega
      have hge : (0 : Int) ≤ (j : Int) := by omega
      have hw1 : IntKind.i64.wrap ((j : Int) + 1) = (j : Int) + 1 := by rw [IntKind.wrap_i64]; have := H.out.2; have := HN.out; omega
      have hjl : j < L.length := by rw [← HN.out]; exact hjn
      obtain ⟨g, c2, hv, hle, hcell⟩ := prow_cell H.out.1 hjl
      rw [← HN.out] at hv
      simp only [Value.slice.injEq, true_and] at hv
      obtain ⟨rfl, rfl⟩ := hv
      obtain ⟨y, hy⟩ : ∃ y, y = L[j].1 := ⟨_, rfl⟩
      obtain ⟨k0, k1⟩ := hcell j hjl
      rw [← hy] at k0
      clear hle hcell
      by_cases hyk : y = k
      · have hey : (y.toList == k.toList) = true := by rw [teq]; exact decide_eq_true hyk
        have HX := hidi (ix_first (L := L) j hjl (hy ▸ hyk) (fun i hi => HI.out i hi (by omega)))
        clear hy hyk
        go_wp2
        go_ret
        exact ⟨by rw [ixI_some HX.out]; rfl, rfl⟩
      · have hey : (y.toList == k.toList) = false := by rw [teq]; exact decide_eq_false hyk
        have HI2 : Hid (∀ i (hi : i < j + 1) (hl : i < L.length), L[i].1 ≠ k) := fun i hi hl => by
          by_cases e : i = j
          · subst e; exact hy ▸ hyk
          · exact HI.out i (by omega) hl
        clear hy hyk
        go_wp2
        go_roundg (n - (j + 1))
        case measure => omega
        case rel => exact ⟨j + 1, by omega, by first | rfl | simp, rfl, HI2.out⟩
    · have hlt : ¬ (j : Int) < (n : Int) := by omega
      have HX : Hid (ix L k = none) := hidi (ix_none.2 (fun x hx => by
        obtain ⟨i, hi, rfl⟩ := List.mem_iff_getElem.1 hx
        exact HI.out i (by have := HN.out; omega) hi))
      go_wp2_with fail
      go_ret
      exact ⟨by rw [ixI_none HX.out]; rfl, rfl⟩
end Go.Proofs.YtenaliaefbkbcaaGreat.Li
