import Derived.Test.YtepjcfhbbcaldaaRk
import Derived.Test.YtepjcfhbbcaldaaCg
import Derived.Lib.MinMax
import Derived.Test.YtepjcfhbbcaldaaShelf
namespace Go.Proofs.Ytepjcfhbbcaldaa.Li
open Go Go.RowKit
set_option linter.unusedSimpArgs false
set_option linter.unusedVariables false
theorem own_sl {w : World} {B e s n : Nat} {v : Value} {xs : List Value} (h : w.ownsRow B e s v n xs) : ∃ a c, v = .slice a n c := by
  rcases h.2 with ⟨h1, h2⟩ | ⟨g, cap, cur, h1, _⟩
  · subst h2; exact ⟨_, _, h1⟩
  · exact ⟨_, _, h1⟩
theorem own_below {w w' : World} {B e s n : Nat} {v : Value} {xs : List Value} (h : w.ownsRow B e s v n xs) (hb : Below w.heap.size w w') : w'.ownsRow B e s v n xs := own_ch h (Below.ch (S := fun _ => False) hb) (fun _ _ q => q)
theorem below_drewN {n m : Nat} {a b : World} (h : Below n a b) : Below n a (b.drewN m) := ⟨h.os, h.tape, h.output, h.size, h.block⟩
/-! ### Rows of two cells: a text and a value -/
abbrev PV := ByteArray × Value
def pcs (x : PV) : List Value := [.string x.1, x.2]
def prow (L : List PV) : List Value := L.flatMap pcs
theorem prow_app (L M : List PV) : prow (L ++ M) = prow L ++ prow M := by simp [prow]
theorem prow_len (L : List PV) : (prow L).length = L.length * 2 := by
  induction L with
  | nil => rfl
  | cons x r ih =>
    show (pcs x ++ prow r).length = _
    rw [List.length_append, ih]
    simp [pcs]
    omega
theorem prow_get : ∀ (L : List PV) (i : Nat) (x : PV), L[i]? = some x → (prow L)[2 * i]? = some (.string x.1) ∧ (prow L)[2 * i + 1]? = some x.2
  | [], i, x, h => by simp at h
  | y :: r, 0, x, h => by
    simp at h
    subst h
    exact ⟨rfl, rfl⟩
  | y :: r, i + 1, x, h => by
    have := prow_get r i x (by simpa using h)
    exact this
theorem prow_cell {w : World} {B e : Nat} {v : Value} {L : List PV} (h : w.ownsRow B e 2 v L.length (prow L)) {j : Nat} (hj : j < L.length) : ∃ g c, v = .slice (some ⟨g, 0, none⟩) L.length c ∧ L.length ≤ c ∧ ∀ i (hi : i < L.length), w.cell? ⟨g, i * 2, none⟩ = some (.string L[i].1) ∧ w.cell? ⟨g, i * 2 + 1, none⟩ = some L[i].2 := by
  rcases h.2 with ⟨_, h2⟩ | ⟨g, cap, cur, h1, h2, h3, h4, h5, h6, h7⟩
  · omega
  · refine ⟨g, cap, h1, h4, fun i hi => ?_⟩
    have a := prow_get L i L[i] (List.getElem?_eq_getElem hi)
    have hx : ∀ x v, x < L.length * 2 → (prow L)[x]? = some v → w.cell? ⟨g, x, none⟩ = some v := fun x v hx hv => by
      have := congrArg (fun l => l[x]?) h7
      simp only [List.getElem?_take, if_pos hx] at this
      rw [hv] at this
      simp [World.cell?, h3]
      simpa using this
    exact ⟨hx _ _ (by omega) (by rw [Nat.mul_comm]; exact a.1), hx _ _ (by omega) (by rw [Nat.mul_comm]; exact a.2)⟩
/-- Where a text stands first. -/
def ix : List PV → ByteArray → Option Nat
  | [], _ => none
  | x :: r, k => if x.1 = k then some 0 else (ix r k).map (· + 1)
def ixI (L : List PV) (k : ByteArray) : Int := match ix L k with | some i => (i : Int) | none => -1
theorem ix_some : ∀ {L : List PV} {k : ByteArray} {i : Nat}, ix L k = some i → ∃ h : i < L.length, L[i].1 = k ∧ ∀ j (hj : j < i), (L[j]'(by omega)).1 ≠ k
  | [], k, i, h => by simp [ix] at h
  | x :: r, k, i, h => by
    unfold ix at h
    by_cases e : x.1 = k
    · rw [if_pos e] at h
      cases h
      exact ⟨by simp, e, fun j hj => by omega⟩
    · rw [if_neg e] at h
      obtain ⟨i', h1, rfl⟩ := Option.map_eq_some_iff.1 h
      obtain ⟨h2, h3, h4⟩ := ix_some h1
      refine ⟨by simpa using h2, by simpa using h3, fun j hj => ?_⟩
      cases j with
      | zero => exact e
      | succ j => simpa using h4 j (by omega)
theorem ix_none : ∀ {L : List PV} {k : ByteArray}, ix L k = none ↔ ∀ x ∈ L, x.1 ≠ k
  | [], k => by simp [ix]
  | x :: r, k => by
    unfold ix
    by_cases e : x.1 = k
    · rw [if_pos e]
      simp [e]
    · rw [if_neg e]
      simp [e, ix_none (L := r)]
theorem ix_first : ∀ {L : List PV} {k : ByteArray} (i : Nat) (h : i < L.length), L[i].1 = k → (∀ j (hj : j < i), (L[j]'(by omega)).1 ≠ k) → ix L k = some i
  | [], k, i, h, _, _ => by simp at h
  | x :: r, k, 0, h, h1, _ => by simp at h1; simp [ix, h1]
  | x :: r, k, i + 1, h, h1, h2 => by
    have e : x.1 ≠ k := h2 0 (by omega)
    have := ix_first (L := r) (k := k) i (by simpa using h) (by simpa using h1) (fun j hj => by simpa using h2 (j + 1) (by omega))
    simp [ix, e, this]
theorem ixI_some {L : List PV} {k : ByteArray} {i : Nat} (h : ix L k = some i) : ixI L k = i := by unfold ixI; rw [h]
theorem ixI_none {L : List PV} {k : ByteArray} (h : ix L k = none) : ixI L k = -1 := by unfold ixI; rw [h]
theorem ba_list_inj {a b : ByteArray} (h : unB a = unB b) : a = b := by
  cases a; cases b
  unfold unB at h
  simp only [ByteArray.mk.injEq]
  exact Array.toList_inj.1 h
theorem teq (a b : ByteArray) : (a.toList == b.toList) = decide (a = b) := by
  rw [eq_two]
  by_cases h : a = b
  · simp [h]
  · have : ¬ unB a = unB b := fun q => h (ba_list_inj q)
    simp [h, this]
end Go.Proofs.Ytepjcfhbbcaldaa.Li
namespace Go.Proofs.Ytepjcfhbbcaldaa.Li
open Go Go.RowKit
set_option linter.unusedSimpArgs false
set_option linter.unusedVariables false
/-- How many levels two lists have in common. -/
def alk : List ByteArray → List ByteArray → Nat
  | a :: l, b :: m => if a = b then alk l m + 1 else 0
  | _, _ => 0
theorem alk_le : ∀ (l m : List ByteArray), alk l m ≤ l.length ∧ alk l m ≤ m.length
  | [], m => by simp [alk]
  | a :: l, [] => by simp [alk]
  | a :: l, b :: m => by
    have := alk_le l m
    unfold alk
    split
    · simp; omega
    · simp
theorem alk_take : ∀ (l m : List ByteArray), l.take (alk l m) = m.take (alk l m)
  | [], m => by simp [alk]
  | a :: l, [] => by simp [alk]
  | a :: l, b :: m => by
    have := alk_take l m
    unfold alk
    split
    · rename_i h; subst h; simp [this]
    · simp
theorem alk_next : ∀ (l m : List ByteArray) (x : ByteArray), l[alk l m]? = some x → m[alk l m]? ≠ some x
  | [], m, x, h => by simp [alk] at h
  | a :: l, [], x, h => by simp
  | a :: l, b :: m, x, h => by
    unfold alk at h ⊢
    split at h
    · rename_i e
      rw [if_pos e]
      simpa using alk_next l m x (by simpa using h)
    · rename_i e
      rw [if_neg e]
      simp at h ⊢
      subst h
      exact fun q => e q.symm
theorem alk_on {l m : List ByteArray} {k : Nat} {x y : ByteArray} (h1 : l[k]? = some x) (h2 : m[k]? = some y) : alk (l.drop k) (m.drop k) = if x = y then alk (l.drop (k + 1)) (m.drop (k + 1)) + 1 else 0 := by
  obtain ⟨hi, e⟩ := List.getElem?_eq_some_iff.1 h1
  obtain ⟨hj, e'⟩ := List.getElem?_eq_some_iff.1 h2
  rw [List.drop_eq_getElem_cons hi, List.drop_eq_getElem_cons hj, e, e']
  rfl
theorem alk_end {l m : List ByteArray} {k : Nat} (h : ¬ k < min l.length m.length) : alk (l.drop k) (m.drop k) = 0 := by
  by_cases h1 : k < l.length
  · rw [show m.drop k = [] from List.drop_eq_nil_of_le (by omega)]
    cases l.drop k <;> rfl
  · rw [show l.drop k = [] from List.drop_eq_nil_of_le (by omega)]
    rfl
set_option maxRecDepth 100000 in
set_option maxHeartbeats 4000000 in
theorem alike_any (l1 l2 : List ByteArray) (v1 v2 : Value) (w : World) (R1 : Row w v1 l1) (R2 : Row w v2 l2) (hl1 : l1.length ≤ 1000001) (hl2 : l2.length ≤ 1000001) : Calls Try.prog 47 #[v1, v2] w fun e w' => e = .returned (.int .i64 (alk l1 l2)) ∧ Below w.heap.size w w' := by
  obtain ⟨x, hx⟩ : ∃ x, x = alk l1 l2 := ⟨_, rfl⟩
  rw [← hx]
  have HX : Hid (x = 0 + alk (l1.drop 0) (l2.drop 0)) := by show _ = _; simpa using hx
  obtain ⟨a, n, cap, rfl, hn, hc, hrow⟩ := R1
  obtain ⟨a2, n2, cap2, rfl, hn2, hc2, hrow2⟩ := R2
  have HN : Hid (n = l1.length ∧ n ≤ cap ∧ l1.length ≤ 1000001) := ⟨hn, hc, hl1⟩
  have HM : Hid (n2 = l2.length ∧ n2 ≤ cap2 ∧ l2.length ≤ 1000001) := ⟨hn2, hc2, hl2⟩
  have HA : Hid (l1 ≠ [] → ∃ g o, a = some ⟨g, o, none⟩ ∧ g < w.heap.size ∧ ∀ k x, l1[k]? = some x → w.cell? ⟨g, o + k, none⟩ = some (.string x)) := hrow
  have HC : Hid (l2 ≠ [] → ∃ g o, a2 = some ⟨g, o, none⟩ ∧ g < w.heap.size ∧ ∀ k x, l2[k]? = some x → w.cell? ⟨g, o + k, none⟩ = some (.string x)) := hrow2
  obtain ⟨q, hq⟩ : ∃ q : Nat, q = min n n2 := ⟨_, rfl⟩
  have hqi : min (n : Int) (n2 : Int) = (q : Int) := by omega
  have HQ : Hid (q ≤ n ∧ q ≤ n2 ∧ q = min n n2) := by constructor <;> omega
  clear hx hn hc hl1 hrow hn2 hc2 hl2 hrow2 hq
  go_enter Try.func47, Try.ntmps47
  go_wp2_with fail
  go_loopg [5] q (fun gg s5 wx => ∃ k : Nat, k ≤ q ∧ gg = q - k ∧ s5 = .int .i64 k ∧ Hid (Below w.heap.size w wx) ∧ Hid (x = k + alk (l1.drop k) (l2.drop k)))
  case atStart => exact ⟨0, Nat.zero_le _, rfl, rfl, Below.refl _ _, HX⟩
  case round =>
    obtain ⟨k, hk, rfl, rfl, B, HE⟩ := hrel
    by_cases hlt : k < q
    · have hlt' : (k : Int) < q := by omega
      obtain ⟨t, ht⟩ : ∃ t, l1[k]? = some t := ⟨_, List.getElem?_eq_getElem (by have := HN.out.1; have := HQ.out; omega)⟩
      obtain ⟨u, hu⟩ : ∃ u, l2[k]? = some u := ⟨_, List.getElem?_eq_getElem (by have := HM.out.1; have := HQ.out; omega)⟩
      obtain ⟨g, o, rfl, hg, hcells⟩ := HA.out (fun e => by subst e; simp at ht)
      obtain ⟨g2, o2, rfl, hg2, hcells2⟩ := HC.out (fun e => by subst e; simp at hu)
      have c1 : wr.cell? ⟨g, o + k, none⟩ = some (.string t) := by rw [B.out.cell (by exact hg)]; exact hcells k t ht
      have c2 : wr.cell? ⟨g2, o2 + k, none⟩ = some (.string u) := by rw [B.out.cell (by exact hg2)]; exact hcells2 k u hu
      have hw : IntKind.i64.wrap ((k : Int) + 1) = (k : Int) + 1 := by rw [IntKind.wrap_i64]; have := HN.out; have := HQ.out; omega
      have i1 : (k : Int) < n := by have := HQ.out; omega
      have i2 : (k : Int) < n2 := by have := HQ.out; omega
      have HS := hidi (alk_on ht hu)
      clear ht hu hcells hcells2 hg hg2
      by_cases he : t = u
      · have hey : (t.toList == u.toList) = true := by rw [teq]; exact decide_eq_true he
        have HF : Hid (x = k + 1 + alk (l1.drop (k + 1)) (l2.drop (k + 1))) := by
          show _ = _
          have := HS.out
          rw [if_pos he] at this
          have := HE.out
          omega
        clear HS HE he
        go_wp2_with fail
        go_quiet (fail)
        go_wp2_with fail
        go_roundg (q - (k + 1))
        case measure => omega
        case rel => exact ⟨k + 1, by omega, rfl, rfl, below_drewN B.out, HF⟩
      · have hey : (t.toList == u.toList) = false := by rw [teq]; exact decide_eq_false he
        have HF : Hid (x = k) := by
          show _ = _
          have := HS.out
          rw [if_neg he] at this
          have := HE.out
          omega
        clear HS HE he
        go_wp2_with fail
        go_quiet (fail)
        go_wp2_with fail
        go_ret
        exact ⟨by have := HF.out; subst this; rfl, below_drewN B.out⟩
    · have hlt' : ¬ (k : Int) < q := by omega
      have HF : Hid (x = k) := by
        show _ = _
        have h1 := HN.out
        have h2 := HM.out
        have h3 := HQ.out
        have := HE.out
        rw [alk_end (by omega)] at this
        omega
      go_wp2_with fail
      go_quiet (fail)
      go_wp2_with fail
      go_ret
      exact ⟨by have := HF.out; subst this; rfl, below_drewN B.out⟩
end Go.Proofs.Ytepjcfhbbcaldaa.Li
namespace Go.Proofs.Ytepjcfhbbcaldaa.Li
open Go Go.RowKit
set_option linter.unusedSimpArgs false
set_option linter.unusedVariables false
theorem sclone_any (s : ByteArray) (w : World) (hs : s.size ≤ 1000000) : Calls Try.prog 44 #[.string s] w fun e w' => e = .returned (.string s) ∧ Below w.heap.size w w' := by
  have H := Try.stringslite_Clone s w (by omega)
  go_enter Try.func44, Try.ntmps44
  go_wp2_with (go_at_call 62; refine H.mono ?_; rintro e w' ⟨rfl, hb⟩; have HB := hidi hb; clear hb)
  go_ret
  exact ⟨rfl, HB.out⟩
end Go.Proofs.Ytepjcfhbbcaldaa.Li
