import Derived.Test.YtipagdhoeocjeaaGreatCc
import Derived.Test.YtipagdhoeocjeaaGreatCg
import Derived.Lib.MinMax
import Derived.Test.YtipagdhoeocjeaaGreatShelf
import Derived.Deep.Cut
import Derived.Deep.OwnRows
namespace Go.Proofs.YtipagdhoeocjeaaGreat.Li
open Go Go.RowKit
set_option linter.unusedSimpArgs false
set_option linter.unusedVariables false
theorem own_sl {w : World} {B e s n : Nat} {v : Value} {xs : List Value} (h : w.ownsRow B e s v n xs) : ∃ a c, v = .slice a n c := by
  rcases h.2 with ⟨h1, h2⟩ | ⟨g, cap, cur, h1, _⟩
  · subst h2; exact ⟨_, _, h1⟩
  · exact ⟨_, _, h1⟩
theorem own_below {w w' : World} {B e s n : Nat} {v : Value} {xs : List Value} (h : w.ownsRow B e s v n xs) (hb : Below w.heap.size w w') : w'.ownsRow B e s v n xs := own_ch h (Below.ch (S := fun _ => False) hb) (fun _ _ q => q)
theorem below_drewN {n m : Nat} {a b : World} (h : Below n a b) : Below n a (b.drewN m) := ⟨h.os, h.tape, h.output, h.size, h.block⟩
/-! ### Rows of two cells: a text and a value -/
abbrev PV := ByteArray × Value
def pcs (x : PV) : List Value := [.string x.1, x.2]
def prow (L : List PV) : List Value := L.flatMap pcs
theorem prow_app (L M : List PV) : prow (L ++ M) = prow L ++ prow M := by simp [prow]
theorem prow_len (L : List PV) : (prow L).length = L.length * 2 := by
  induction L with
  | nil => rfl
  | cons x r ih =>
    show (pcs x ++ prow r).length = _
    rw [List.length_append, ih]
    simp [pcs]
    omega
theorem prow_get : ∀ (L : List PV) (i : Nat) (x : PV), L[i]? = some x → (prow L)[2 * i]? = some (.string x.1) ∧ (prow L)[2 * i + 1]? = some x.2
  | [], i, x, h => by simp at h
  | y :: r, 0, x, h => by
    simp at h
    subst h
    exact ⟨rfl, rfl⟩
  | y :: r, i + 1, x, h => by
    have := prow_get r i x (by simpa using h)
    exact this
theorem prow_cell {w : World} {B e : Nat} {v : Value} {L : List PV} (h : w.ownsRow B e 2 v L.length (prow L)) {j : Nat} (hj : j < L.length) : ∃ g c, v = .slice (some ⟨g, 0, none⟩) L.length c ∧ L.length ≤ c ∧ ∀ i (hi : i < L.length), w.cell? ⟨g, i * 2, none⟩ = some (.string L[i].1) ∧ w.cell? ⟨g, i * 2 + 1, none⟩ = some L[i].2 := by
  rcases h.2 with ⟨_, h2⟩ | ⟨g, cap, cur, h1, h2, h3, h4, h5, h6, h7⟩
  · omega
  · refine ⟨g, cap, h1, h4, fun i hi => ?_⟩
    have a := prow_get L i L[i] (List.getElem?_eq_getElem hi)
    have hx : ∀ x v, x < L.length * 2 → (prow L)[x]? = some v → w.cell? ⟨g, x, none⟩ = some v := fun x v hx hv => by
      have := congrArg (fun l => l[x]?) h7
      simp only [List.getElem?_take, if_pos hx] at this
      rw [hv] at this
      simp [World.cell?, h3]
      simpa using this
    exact ⟨hx _ _ (by omega) (by rw [Nat.mul_comm]; exact a.1), hx _ _ (by omega) (by rw [Nat.mul_comm]; exact a.2)⟩
/-- Where a text stands first. -/
def ix : List PV → ByteArray → Option Nat
  | [], _ => none
  | x :: r, k => if x.1 = k then some 0 else (ix r k).map (· + 1)
def ixI (L : List PV) (k : ByteArray) : Int := match ix L k with | some i => (i : Int) | none => -1
theorem ix_some : ∀ {L : List PV} {k : ByteArray} {i : Nat}, ix L k = some i → ∃ h : i < L.length, L[i].1 = k ∧ ∀ j (hj : j < i), (L[j]'(by omega)).1 ≠ k
  | [], k, i, h => by simp [ix] at h
  | x :: r, k, i, h => by
    unfold ix at h
    by_cases e : x.1 = k
    · rw [if_pos e] at h
      cases h
      exact ⟨by simp, e, fun j hj => by omega⟩
    · rw [if_neg e] at h
      obtain ⟨i', h1, rfl⟩ := Option.map_eq_some_iff.1 h
      obtain ⟨h2, h3, h4⟩ := ix_some h1
      refine ⟨by simpa using h2, by simpa using h3, fun j hj => ?_⟩
      cases j with
      | zero => exact e
      | succ j => simpa using h4 j (by omega)
theorem ix_none : ∀ {L : List PV} {k : ByteArray}, ix L k = none ↔ ∀ x ∈ L, x.1 ≠ k
  | [], k => by simp [ix]
  | x :: r, k => by
    unfold ix
    by_cases e : x.1 = k
    · rw [if_pos e]
      simp [e]
    · rw [if_neg e]
      simp [e, ix_none (L := r)]
theorem ix_first : ∀ {L : List PV} {k : ByteArray} (i : Nat) (h : i < L.length), L[i].1 = k → (∀ j (hj : j < i), (L[j]'(by omega)).1 ≠ k) → ix L k = some i
  | [], k, i, h, _, _ => by simp at h
  | x :: r, k, 0, h, h1, _ => by simp at h1; simp [ix, h1]
  | x :: r, k, i + 1, h, h1, h2 => by
    have e : x.1 ≠ k := h2 0 (by omega)
    have := ix_first (L := r) (k := k) i (by simpa using h) (by simpa using h1) (fun j hj => by simpa using h2 (j + 1) (by omega))
    simp [ix, e, this]
theorem ixI_some {L : List PV} {k : ByteArray} {i : Nat} (h : ix L k = some i) : ixI L k = i := by unfold ixI; rw [h]
theorem ixI_none {L : List PV} {k : ByteArray} (h : ix L k = none) : ixI L k = -1 := by unfold ixI; rw [h]
theorem ba_list_inj {a b : ByteArray} (h : unB a = unB b) : a = b := by
  cases a; cases b
  unfold unB at h
  simp only [ByteArray.mk.injEq]
  exact Array.toList_inj.1 h
theorem teq (a b : ByteArray) : (a.toList == b.toList) = decide (a = b) := by
  rw [eq_two]
  by_cases h : a = b
  · simp [h]
  · have : ¬ unB a = unB b := fun q => h (ba_list_inj q)
    simp [h, this]
end Go.Proofs.YtipagdhoeocjeaaGreat.Li
namespace Go.Proofs.YtipagdhoeocjeaaGreat.Li
open Go Go.RowKit
set_option linter.unusedSimpArgs false
set_option linter.unusedVariables false
/-- How many levels two lists have in common. -/
def alk : List ByteArray → List ByteArray → Nat
  | a :: l, b :: m => if a = b then alk l m + 1 else 0
  | _, _ => 0
theorem alk_le : ∀ (l m : List ByteArray), alk l m ≤ l.length ∧ alk l m ≤ m.length
  | [], m => by simp [alk]
  | a :: l, [] => by simp [alk]
  | a :: l, b :: m => by
    have := alk_le l m
    unfold alk
    split
    · simp; omega
    · simp
theorem alk_take : ∀ (l m : List ByteArray), l.take (alk l m) = m.take (alk l m)
  | [], m => by simp [alk]
  | a :: l, [] => by simp [alk]
  | a :: l, b :: m => by
    have := alk_take l m
    unfold alk
    split
    · rename_i h; subst h; simp [this]
    · simp
theorem alk_next : ∀ (l m : List ByteArray) (x : ByteArray), l[alk l m]? = some x → m[alk l m]? ≠ some x
  | [], m, x, h => by simp [alk] at h
  | a :: l, [], x, h => by simp
  | a :: l, b :: m, x, h => by
    unfold alk at h ⊢
    split at h
    · rename_i e
      rw [if_pos e]
      simpa using alk_next l m x (by simpa using h)
    · rename_i e
      rw [if_neg e]
      simp at h ⊢
      subst h
      exact fun q => e q.symm
theorem alk_on {l m : List ByteArray} {k : Nat} {x y : ByteArray} (h1 : l[k]? = some x) (h2 : m[k]? = some y) : alk (l.drop k) (m.drop k) = if x = y then alk (l.drop (k + 1)) (m.drop (k + 1)) + 1 else 0 := by
  obtain ⟨hi, e⟩ := List.getElem?_eq_some_iff.1 h1
  obtain ⟨hj, e'⟩ := List.getElem?_eq_some_iff.1 h2
  rw [List.drop_eq_getElem_cons hi, List.drop_eq_getElem_cons hj, e, e']
  rfl
theorem alk_end {l m : List ByteArray} {k : Nat} (h : ¬ k < min l.length m.length) : alk (l.drop k) (m.drop k) = 0 := by
  by_cases h1 : k < l.length
  · rw [show m.drop k = [] from List.drop_eq_nil_of_le (by omega)]
    cases l.drop k <;> rfl
  · rw [show l.drop k = [] from List.drop_eq_nil_of_le (by omega)]
    rfl
set_option maxRecDepth 100000 in
set_option maxHeartbeats 4000000 in
theorem alike_any (l1 l2 : List ByteArray) (v1 v2 : Value) (w : World) (R1 : Row w v1 l1) (R2 : Row w v2 l2) (hl1 : l1.length ≤ 1000001) (hl2 : l2.length ≤ 1000001) : Calls Tryz.prog 48 #[v1, v2] w fun e w' => e = .returned (.int .i64 (alk l1 l2)) ∧ Below w.heap.size w w' := by
  obtain ⟨x, hx⟩ : ∃ x, x = alk l1 l2 := ⟨_, rfl⟩
  rw [← hx]
  have HX : Hid (x = 0 + alk (l1.drop 0) (l2.drop 0)) := by show _ = _; simpa using hx
  obtain ⟨a, n, cap, rfl, hn, hc, hrow⟩ := R1
  obtain ⟨a2, n2, cap2, rfl, hn2, hc2, hrow2⟩ := R2
  have HN : Hid (n = l1.length ∧ n ≤ cap ∧ l1.length ≤ 1000001) := ⟨hn, hc, hl1⟩
  have HM : Hid (n2 = l2.length ∧ n2 ≤ cap2 ∧ l2.length ≤ 1000001) := ⟨hn2, hc2, hl2⟩
  have HA : Hid (l1 ≠ [] → ∃ g o, a = some ⟨g, o, none⟩ ∧ g < w.heap.size ∧ ∀ k x, l1[k]? = some x → w.cell? ⟨g, o + k, none⟩ = some (.string x)) := hrow
  have HC : Hid (l2 ≠ [] → ∃ g o, a2 = some ⟨g, o, none⟩ ∧ g < w.heap.size ∧ ∀ k x, l2[k]? = some x → w.cell? ⟨g, o + k, none⟩ = some (.string x)) := hrow2
  obtain ⟨q, hq⟩ : ∃ q : Nat, q = min n n2 := ⟨_, rfl⟩
  have hqi : min (n : Int) (n2 : Int) = (q : Int) := by omega
  have HQ : Hid (q ≤ n ∧ q ≤ n2 ∧ q = min n n2) := by constructor <;> omega
  clear hx hn hc hl1 hrow hn2 hc2 hl2 hrow2 hq
  go_enter Tryz.func48, Tryz.ntmps48
  go_wp2_with fail
  go_loopg [5] q (fun gg s5 wx => ∃ k : Nat, k ≤ q ∧ gg = q - k ∧ s5 = .int .i64 k ∧ Hid (Below w.heap.size w wx) ∧ Hid (x = k + alk (l1.drop k) (l2.drop k)))
  case atStart => exact ⟨0, Nat.zero_le _, rfl, rfl, Below.refl _ _, HX⟩
  case round =>
    obtain ⟨k, hk, rfl, rfl, B, HE⟩ := hrel
    by_cases hlt : k < q
    · have hlt' : (k : Int) < q := by omega
      obtain ⟨t, ht⟩ : ∃ t, l1[k]? = some t := ⟨_, List.getElem?_eq_getElem (by have := HN.out.1; have := HQ.out; omega)⟩
      obtain ⟨u, hu⟩ : ∃ u, l2[k]? = some u := ⟨_, List.getElem?_eq_getElem (by have := HM.out.1; have := HQ.out; omega)⟩
      obtain ⟨g, o, rfl, hg, hcells⟩ := HA.out (fun e => by subst e; simp at ht)
      obtain ⟨g2, o2, rfl, hg2, hcells2⟩ := HC.out (fun e => by subst e; simp at hu)
      have c1 : wr.cell? ⟨g, o + k, none⟩ = some (.string t) := by rw [B.out.cell (by exact hg)]; exact hcells k t ht
      have c2 : wr.cell? ⟨g2, o2 + k, none⟩ = some (.string u) := by rw [B.out.cell (by exact hg2)]; exact hcells2 k u hu
      have hw : IntKind.i64.wrap ((k : Int) + 1) = (k : Int) + 1 := by rw [IntKind.wrap_i64]; have := HN.out; have := HQ.out; omega
      have i1 : (k : Int) < n := by have := HQ.out; omega
      have i2 : (k : Int) < n2 := by have := HQ.out; omega
      have HS := hidi (alk_on ht hu)
      clear ht hu hcells hcells2 hg hg2
      by_cases he : t = u
      · have hey : (t.toList == u.toList) = true := by rw [teq]; exact decide_eq_true he
        have HF : Hid (x = k + 1 + alk (l1.drop (k + 1)) (l2.drop (k + 1))) := by
          show _ = _
          have := HS.out
          rw [if_pos he] at this
          have := HE.out
          omega
        clear HS HE he
        go_wp2_with fail
        go_quiet (fail)
        go_wp2_with fail
        go_roundg (q - (k + 1))
        case measure => omega
        case rel => exact ⟨k + 1, by omega, rfl, rfl, below_drewN B.out, HF⟩
      · have hey : (t.toList == u.toList) = false := by rw [teq]; exact decide_eq_false he
        have HF : Hid (x = k) := by
          show _ = _
          have := HS.out
          rw [if_neg he] at this
          have := HE.out
          omega
        clear HS HE he
        go_wp2_with fail
        go_quiet (fail)
        go_wp2_with fail
        go_ret
        exact ⟨by have := HF.out; subst this; rfl, below_drewN B.out⟩
    · have hlt' : ¬ (k : Int) < q := by omega
      have HF : Hid (x = k) := by
        show _ = _
        have h1 := HN.out
        have h2 := HM.out
        have h3 := HQ.out
        have := HE.out
        rw [alk_end (by omega)] at this
        omega
      go_wp2_with fail
      go_quiet (fail)
      go_wp2_with fail
      go_ret
      exact ⟨by have := HF.out; subst this; rfl, below_drewN B.out⟩
end Go.Proofs.YtipagdhoeocjeaaGreat.Li
namespace Go.Proofs.YtipagdhoeocjeaaGreat.Li
open Go Go.RowKit
set_option linter.unusedSimpArgs false
set_option linter.unusedVariables false
theorem sclone_any (s : ByteArray) (w : World) (hs : s.size ≤ 1000000) : Calls Tryz.prog 46 #[.string s] w fun e w' => e = .returned (.string s) ∧ Below w.heap.size w w' := by
  have H := Tryz.stringslite_Clone s w (by omega)
  go_enter Tryz.func46, Tryz.ntmps46
  go_wp2_with (go_at_call 64; refine H.mono ?_; rintro e w' ⟨rfl, hb⟩; have HB := hidi hb; clear hb)
  go_ret
  exact ⟨rfl, HB.out⟩
end Go.Proofs.YtipagdhoeocjeaaGreat.Li
namespace Go.Proofs.YtipagdhoeocjeaaGreat.Li
open Go Go.RowKit
set_option linter.unusedSimpArgs false
set_option linter.unusedVariables false
theorem later_at {w w' : World} {g t : Nat} {cs : Array Value} {fz : Nat × Nat} (h : w.heap[g]? = some (.cells cs t fz)) (hb : Below w.heap.size w w') : w'.heap[g]? = some (.cells cs t fz) := (hb.block g (Array.getElem?_eq_some_iff.1 h).1).trans h
theorem info44 : (Tryz.prog.info? 161).map (fun i => (i.zero, i.size, i.bytes)) = some (some (.agg #[.string ⟨#[]⟩, .int .i64 0]), 2, 24) := by kernel_rfl
/-- A row of two cells that is laid on, and the cell that holds it. -/
structure Ap (w w' : World) (B e b i tb : Nat) (bc : Array Value) (v : Value) (L : List PV) (x : PV) : Prop where
  ex : ∃ v', w'.heap[b]? = some (.cells (bc.setIfInBounds i v') tb (0, 0)) ∧ w'.ownsRow B e 2 v' (L.length + 1) (prow (L ++ [x])) ∧ (v.ownBlock = v'.ownBlock ∨ ∃ g, v'.ownBlock = some g ∧ w.heap.size ≤ g)
  ch : Ch (fun j => j = b ∨ v.ownBlock = some j) w w'
theorem ap_of {w w2 : World} {B e b i tb st bytes : Nat} {z : Value} {bc : Array Value} {v : Value} {L : List PV} {x : PV} (hu : Tryz.prog.underlying st = some (.slice e)) (hi : (Tryz.prog.info? e).map (fun i => (i.zero, i.size, i.bytes)) = some (some z, 2, bytes)) (hz : z.cells.size = 2) (hby : bytes ≤ 400) (h1 : ∀ u ∈ #[Value.string x.1, x.2].toList, u.oneCell' = true)
    (hb : w.heap[b]? = some (.cells bc tb (0, 0))) (hte : tb ≠ e) (h : w.ownsRow B e 2 v L.length (prow L)) (hm : L.length ≤ 1000000) (hB : B ≤ w.heap.size) (b2 : Below w.heap.size w w2) :
    ∃ g' cap' w3, (Builtin.append_ #[st, st] st #[v, .slice (some ⟨w2.heap.size, 0, none⟩) 1 1]).run Tryz.prog (w2.alloc (.cells #[.string x.1, x.2] e)) = .ok (.slice (some ⟨g', 0, none⟩) (L.length + 1) cap') w3 ∧ w3.cell? ⟨b, i, none⟩ = w.cell? ⟨b, i, none⟩ ∧ w3.frozen? ⟨b, i, none⟩ = false ∧ Ap w (w3.setCell ⟨b, i, none⟩ (.slice (some ⟨g', 0, none⟩) (L.length + 1) cap')) B e b i tb bc v L x := by
  obtain ⟨g', cap', w3, k1, k2, k3, k4⟩ := app_gen (st := st) (e := e) (cs := #[.string x.1, x.2]) hu hi hz (by omega) hby (own0 (own_below h b2)) rfl h1 hm
  have hbl : b < w.heap.size := (Array.getElem?_eq_some_iff.1 hb).1
  have hnb : ∀ g, v.ownBlock = some g → g ≠ b := fun g hg q => by
    obtain ⟨cur, hc⟩ := own_lt h hg
    rw [q, hb] at hc
    simp at hc
    exact hte hc.2
  have hb3 : w3.heap[b]? = some (.cells bc tb (0, 0)) := (k3.block b (Nat.lt_of_lt_of_le hbl b2.size) (fun q => hnb b q rfl)).trans (later_at hb b2)
  have hgb : g' ≠ b := fun q => by
    obtain ⟨cur, hc⟩ := own_lt k2 (g := g') rfl
    rw [q, hb3] at hc
    simp at hc
    exact hte hc.2
  have hgB : B ≤ g' := by
    rcases k4 with q | q
    · exact row_ge h q
    · have := b2.size; omega
  refine ⟨g', cap', w3, k1, ?_, box_frozen hb3 i, ⟨⟨_, heap_set hb3 _, ?_, ?_⟩, ?_⟩⟩
  · unfold World.cell?
    simp only [hb, hb3]
  · have := own_ch k2 (ch_set b i (.slice (some ⟨g', 0, none⟩) (L.length + 1) cap')) (fun g hg q => by simp [Value.ownBlock] at hg; omega)
    rw [prow_app]
    exact row_base (by simpa [prow, pcs] using this) (fun g hg => by simp [Value.ownBlock] at hg; omega)
  · rcases k4 with q | q
    · exact .inl q
    · exact .inr ⟨g', rfl, Nat.le_trans b2.size q⟩
  · exact ((Below.ch (S := fun j => j = b ∨ v.ownBlock = some j) b2).trans k3 (fun j _ q => .inr q)).trans (ch_set b i _) (fun j _ q => .inl q)
set_option maxRecDepth 100000 in
set_option maxHeartbeats 4000000 in
theorem prow_set : ∀ (L : List PV) (i : Nat) (x : PV) (u : Value), L[i]? = some x → prow (L.set i (x.1, u)) = (prow L).set (2 * i + 1) u
  | [], i, x, u, h => by simp at h
  | y :: r, 0, x, u, h => by
    simp at h
    subst h
    rfl
  | y :: r, i + 1, x, u, h => by
    have := prow_set r i x u (by simpa using h)
    show pcs y ++ prow (r.set i (x.1, u)) = (pcs y ++ prow r).set (2 * (i + 1) + 1) u
    rw [this, show 2 * (i + 1) + 1 = (2 * i + 1) + 2 by omega]
    rfl
theorem own_set {w : World} {B e g c i : Nat} {L : List PV} {x : PV} (h : w.ownsRow B e 2 (.slice (some ⟨g, 0, none⟩) L.length c) L.length (prow L)) (hx : L[i]? = some x) (u : Value) :
    (w.setCell ⟨g, i * 2 + 1, none⟩ u).ownsRow B e 2 (.slice (some ⟨g, 0, none⟩) L.length c) L.length (prow (L.set i (x.1, u))) := by
  have hi : i < L.length := (List.getElem?_eq_some_iff.1 hx).1
  refine ⟨by rw [prow_len, List.length_set], ?_⟩
  rcases h.2 with ⟨h1, h2⟩ | ⟨g', cap, cur, h1, h2, h3, h4, h5, h6, h7⟩
  · cases h1
  · simp only [Value.slice.injEq, Option.some.injEq, Addr.mk.injEq] at h1
    obtain ⟨⟨rfl, -, -⟩, -, rfl⟩ := h1
    refine .inr ⟨g, c, cur.setIfInBounds (i * 2 + 1) u, rfl, h2, heap_set h3 u, h4, h5, ?_, ?_⟩
    · simpa using h6
    · rw [prow_set L i x u hx, ← h7, Array.toList_setIfInBounds, List.take_set, Nat.mul_comm i 2]

end Go.Proofs.YtipagdhoeocjeaaGreat.Li
namespace Go.Proofs.YtipagdhoeocjeaaGreat.Li
open Go Go.RowKit
set_option linter.unusedSimpArgs false
set_option linter.unusedVariables false
theorem eqm (t k e : TypeId) (m : Option Nat) (h : Tryz.prog.underlying t = some (.map k e)) (w : World) : (binOp .eql t (.map m) (.map none)).run Tryz.prog w = .ok (.bool m.isNone) w := by
  show ((do let b ← Op.equal t (.map m) (.map none); pure (Value.bool b)) : Sem Value).run Tryz.prog w = _
  simp [run_equal_map_nil w t k e m h]
theorem eqm60 (mb : Nat) (w : World) : (binOp .eql 73 (.map (some mb)) (.map none)).run Tryz.prog w = .ok (.bool false) w := eqm _ _ _ _ Tryz.underlying73 w
theorem eqm60n (w : World) : (binOp .eql 73 (.map none) (.map none)).run Tryz.prog w = .ok (.bool true) w := eqm _ _ _ _ Tryz.underlying73 w
theorem mkm60 (W : World) : (Instr.makeMap 73 none).run Tryz.prog W = .ok (.map (some W.heap.size)) (W.alloc (.map #[] 0)) := by simp [Instr.makeMap, run_underlying Tryz.underlying73]; try rfl
def ptr (p : Nat) : Value := .pointer (some ⟨p, 0, none⟩)
set_option maxRecDepth 100000 in
set_option maxHeartbeats 4000000 in
theorem hang_some (p q mb g o n cap : Nat) (x : ByteArray) (w w2 : World) (hc : w.cell? ⟨p, 2, none⟩ = some (.map (some mb))) (hq : w.cell? ⟨q, 0, none⟩ = some (.slice (some ⟨g, o, none⟩) n cap)) (hn : 0 < n) (hx : w.cell? ⟨g, o, none⟩ = some (.string x))
    (hm : (Instr.mapUpdate 73 (.map (some mb)) (.string x) (ptr q)).run Tryz.prog w.drew = .ok () w2) :
    Calls Tryz.prog 50 #[ptr p, ptr q] w fun e w' => e = .returned (.tuple #[]) ∧ w' = w2 := by
  have heq := eqm60 mb
  have hn' : (0 : Int) < n := by omega
  unfold ptr at *
  go_enter Tryz.func50, Tryz.ntmps50
  go_wp2_with fail
  go_region_with fail
  all_goals go_wp2_with fail
  all_goals first | go_end0 | refine bodyPost_ret (results_none rfl _ _ _) rfl ?_
  all_goals exact ⟨rfl, rfl⟩
set_option maxRecDepth 100000 in
set_option maxHeartbeats 4000000 in
theorem hang_nil (p q g o n cap : Nat) (x : ByteArray) (w wa w2 : World) (hc : w.cell? ⟨p, 2, none⟩ = some (.map none)) (hf : w.frozen? ⟨p, 2, none⟩ = false) (hpl : p < w.heap.size) (hwa : wa = (w.setCell ⟨p, 2, none⟩ (.map (some w.heap.size))).alloc (.map #[] 0)) (hp : wa.cell? ⟨p, 2, none⟩ = some (.map (some w.heap.size))) (hq : wa.cell? ⟨q, 0, none⟩ = some (.slice (some ⟨g, o, none⟩) n cap)) (hn : 0 < n) (hx : wa.cell? ⟨g, o, none⟩ = some (.string x))
    (hm : (Instr.mapUpdate 73 (.map (some w.heap.size)) (.string x) (ptr q)).run Tryz.prog wa.drew = .ok () w2) :
    Calls Tryz.prog 50 #[ptr p, ptr q] w fun e w' => e = .returned (.tuple #[]) ∧ w' = w2 := by
  have heq := eqm60n
  have hmk := mkm60
  have hn' : (0 : Int) < n := by omega
  unfold ptr at *
  go_enter Tryz.func50, Tryz.ntmps50
  go_upto_region 2 with fail
  rw [← hwa]
  clear hwa hc hf heq hmk
  go_region_with fail
  all_goals go_wp2_with fail
  all_goals first | go_end0 | refine bodyPost_ret (results_none rfl _ _ _) rfl ?_
  all_goals exact ⟨rfl, rfl⟩
theorem MG.ne {w : World} {mb b n : Nat} {f : ByteArray → Option Value} {cs : Array Value} {t : Nat} {fz : Nat × Nat} (h : MG w (.map (some mb)) n f) (hb : w.heap[b]? = some (.cells cs t fz)) : b ≠ mb := fun q => by
  obtain ⟨es, c, hq⟩ := h.block rfl
  rw [← q, hb] at hq
  cases hq
theorem row_own {w : World} {B : Nat} {v : Value} {n : Nat} {l : List ByteArray} (h : w.ownsRow B 9 1 v n (l.map Value.string)) : Row w v l := by
  have hl := h.1
  rcases h.2 with ⟨rfl, h2⟩ | ⟨g, cap, cur, rfl, hb, hg, h4, h5, h6, h7⟩
  · subst h2
    have : l = [] := by cases l <;> simp at hl ⊢
    subst this
    exact ⟨none, 0, 0, rfl, rfl, Nat.le_refl _, fun q => absurd rfl q⟩
  · have hn : n = l.length := by simpa using hl.symm
    refine ⟨_, n, cap, rfl, hn, h4, fun _ => ⟨g, 0, rfl, (Array.getElem?_eq_some_iff.1 hg).1, fun k x hk => ?_⟩⟩
    have hkl : k < l.length := (List.getElem?_eq_some_iff.1 hk).1
    refine box_cells hg (0 + k) _ ?_
    rw [Nat.zero_add, ← Array.getElem?_toList]
    have e : (cur.toList.take (n * 1))[k]? = some (.string x) := by rw [h7, List.getElem?_map, hk]; rfl
    rw [List.getElem?_take, if_pos (by omega)] at e
    exact e
/-- What hang leaves. -/
structure Hg (w w' : World) (p : Nat) (lv ev kv : Value) (nk : Nat) (kd : ByteArray → Option Value) (x : ByteArray) (q : Nat) : Prop where
  ex : ∃ mb, w'.heap[p]? = some (.cells #[lv, ev, .map (some mb)] 75 (0, 0)) ∧ MG w' (.map (some mb)) (szG kd x nk) (setG kd x (some (ptr q))) ∧ (kv = .map (some mb) ∨ kv = .map none ∧ mb = w.heap.size)
  ch : Ch (fun j => j = p ∨ kv = .map (some j)) w w'
theorem hang_any {w : World} {p q nk m : Nat} {lv ev kv lq e2 k2 : Value} {x : ByteArray} {r : List ByteArray} {kd : ByteArray → Option Value} (h : w.heap[p]? = some (.cells #[lv, ev, kv] 75 (0, 0))) (hq : w.heap[q]? = some (.cells #[lq, e2, k2] 75 (0, 0))) (hpq : q ≠ p) (R : w.ownsRow 0 9 1 lq m ((x :: r).map Value.string)) (hx : okT x) (hk : MG w kv nk kd) (hn : nk < 1000000) :
    Calls Tryz.prog 50 #[ptr p, ptr q] w fun e w' => e = .returned (.tuple #[]) ∧ Hg w w' p lv ev kv nk kd x q := by
  obtain ⟨g, o, n, cap, rfl, hnn, hcap, hgl, hc0, -⟩ := (row_own R).cons
  have hgp : g ≠ p := fun e => by
    obtain ⟨cur, hcur⟩ := own_lt R rfl
    rw [e, h] at hcur
    simp at hcur
  have hpl : p < w.heap.size := (Array.getElem?_eq_some_iff.1 h).1
  have hql : q < w.heap.size := (Array.getElem?_eq_some_iff.1 hq).1
  rcases hk.mk with rfl | ⟨mb, rfl⟩
  · obtain ⟨wa, hwa⟩ : ∃ wa, wa = (w.setCell ⟨p, 2, none⟩ (.map (some w.heap.size))).alloc (.map #[] 0) := ⟨_, rfl⟩
    have hsz : (w.setCell ⟨p, 2, none⟩ (.map (some w.heap.size))).heap.size = w.heap.size := by simp [World.setCell]
    have hb3 : wa.heap[p]? = some (.cells #[lv, ev, .map (some w.heap.size)] 75 (0, 0)) := by
      rw [hwa, heap_alloc_old _ _ (by rw [hsz]; exact hpl), heap_set h]
      rfl
    have old : ∀ k, k < w.heap.size → k ≠ p → wa.heap[k]? = w.heap[k]? := fun k hk hkp => by
      rw [hwa, heap_alloc_old _ _ (by rw [hsz]; exact hk), heap_set_ne _ hkp]
    have m2 : MG wa (.map (some w.heap.size)) 0 (fun _ => none) := by
      rw [hwa]
      have := MG.made (w.setCell ⟨p, 2, none⟩ (.map (some w.heap.size)))
      rw [hsz] at this
      exact this
    have cw : Ch (fun j => j = p) w wa := by
      rw [hwa]
      exact (ch_set p 2 _).then (ch_alloc _ _ _)
    have m3 : MG wa.drew (.map (some w.heap.size)) 0 (fun _ => none) := m2.keep (fun b _ => rfl)
    obtain ⟨w2, k1, k2, k3⟩ := m3.put (t := 73) Tryz.underlying73 (k := x) hx (ptr q) (by unfold maxLen; omega)
    have hcell : ∀ (k i : Nat), k < w.heap.size → k ≠ p → wa.cell? ⟨k, i, none⟩ = w.cell? ⟨k, i, none⟩ := fun k i h1 h2 => by
      unfold World.cell?
      simp only [old k h1 h2]
    refine (hang_nil p q g o n cap x w wa w2 (box_cells h 2 _ rfl) (box_frozen h 2) hpl hwa (box_cells hb3 2 _ rfl) ?_ (by omega) ?_ k1).mono ?_
    · rw [hcell q 0 hql hpq]
      exact box_cells hq 0 _ rfl
    · rw [hcell g o hgl hgp]
      exact hc0
    rintro e w' ⟨rfl, rfl⟩
    have hnone : nk = 0 ∧ ∀ k, okT k → kd k = none := by
      rcases hk with ⟨_, a, b⟩ | ⟨mb, D, a, _⟩
      · exact ⟨a, b⟩
      · cases a
    refine ⟨rfl, ⟨w.heap.size, ?_, ?_, .inr ⟨rfl, rfl⟩⟩, ?_⟩
    · exact (k3.block p (Nat.lt_of_lt_of_le hpl cw.size) (by omega)).trans hb3
    · have := k2.congr (g := setG kd x (some (ptr q))) (fun k hk => by
        unfold setG
        split
        · rfl
        · exact hnone.2 k hk)
      rw [hnone.1]
      have e : szG kd x 0 = szG (fun _ => none) x 0 := by
        unfold szG
        rw [hnone.2 x hx]
      rw [e]
      exact this
    · exact ((cw.then (ch_drew _ _)).mono (fun j _ q => .inl q)).trans k3 (fun j hj e => absurd hj (by omega))
  · have hne : p ≠ mb := hk.ne h
    have m3 : MG w.drew (.map (some mb)) nk kd := hk.keep (fun b _ => rfl)
    obtain ⟨w2, k1, k2, k3⟩ := m3.put (t := 73) Tryz.underlying73 (k := x) hx (ptr q) (by unfold maxLen; omega)
    refine (hang_some p q mb g o n cap x w w2 (box_cells h 2 _ rfl) (box_cells hq 0 _ rfl) (by omega) hc0 k1).mono ?_
    rintro e w' ⟨rfl, rfl⟩
    refine ⟨rfl, ⟨mb, (k3.block p hpl hne).trans h, k2, .inl rfl⟩, ?_⟩
    exact (ch_drew _ _).trans k3 (fun j _ e => .inr (by rw [e]))
end Go.Proofs.YtipagdhoeocjeaaGreat.Li
namespace Go.Proofs.YtipagdhoeocjeaaGreat.Li
open Go Go.RowKit
set_option linter.unusedSimpArgs false
set_option linter.unusedVariables false
/-- A slice of texts whose block is a row of texts. -/
structure Rw (w : World) (v : Value) (L : List ByteArray) : Prop where
  row : Row w v L
  ty : ∀ g, v.ownBlock = some g → ∃ cur, w.heap[g]? = some (.cells cur 9 (0, 0))
theorem Row.stay {w w' : World} {v : Value} {xs : List ByteArray} (h : Row w v xs) (hs : w.heap.size ≤ w'.heap.size) (hb : ∀ g, v.ownBlock = some g → w'.heap[g]? = w.heap[g]?) : Row w' v xs := by
  obtain ⟨a, n, cap, rfl, hn, hc, hx⟩ := h
  refine ⟨a, n, cap, rfl, hn, hc, fun hne => ?_⟩
  obtain ⟨g, o, rfl, hg, hk⟩ := hx hne
  refine ⟨g, o, rfl, by omega, fun k x hk' => ?_⟩
  have := hk k x hk'
  unfold World.cell? at this ⊢
  simp only [hb g rfl]
  exact this
theorem Rw.ch {w w' : World} {v : Value} {L : List ByteArray} {S : Nat → Prop} (h : Rw w v L) (hc : Ch S w w') (hs : ∀ g, v.ownBlock = some g → ¬ S g) : Rw w' v L := by
  have st : ∀ g, v.ownBlock = some g → w'.heap[g]? = w.heap[g]? := fun g hg => by
    obtain ⟨cur, e⟩ := h.ty g hg
    exact hc.block g (Array.getElem?_eq_some_iff.1 e).1 (hs g hg)
  exact ⟨Row.stay h.row hc.size st, fun g hg => by
    obtain ⟨cur, e⟩ := h.ty g hg
    exact ⟨cur, (st g hg).trans e⟩⟩
theorem Rw.below {w w' : World} {v : Value} {L : List ByteArray} (h : Rw w v L) (hb : Below w.heap.size w w') : Rw w' v L := h.ch (Below.ch (S := fun _ => False) hb) (fun _ _ q => q)
theorem Rw.ne {w : World} {v : Value} {L : List ByteArray} (h : Rw w v L) {p t : Nat} {cs : Array Value} {fz : Nat × Nat} (hp : w.heap[p]? = some (.cells cs t fz)) (ht : t ≠ 9) {g : Nat} (hg : v.ownBlock = some g) : g ≠ p := fun e => by
  obtain ⟨cur, hc⟩ := h.ty g hg
  rw [e, hp] at hc
  simp at hc
  exact ht hc.2.1
theorem rw_own {w : World} {B : Nat} {v : Value} {n : Nat} {l : List ByteArray} (h : w.ownsRow B 9 1 v n (l.map Value.string)) : Rw w v l := ⟨row_own h, fun g hg => own_lt h hg⟩
theorem info9 : (Tryz.prog.info? 9).map (fun i => (i.zero, i.size, i.bytes)) = some (some (Value.string ⟨#[]⟩), 1, 16) := by kernel_rfl
/-- The cells of a row that is being filled. -/
def fil (L : List ByteArray) (k : Nat) : Array Value := ((L.take k).map Value.string ++ List.replicate (L.length - k) (Value.string ⟨#[]⟩)).toArray
theorem fil_zero (L : List ByteArray) : fil L 0 = madeCells #[.string ⟨#[]⟩] L.length := by
  apply Array.ext'
  rw [toList_madeCells_one]
  simp [fil]
theorem fil_next (L : List ByteArray) (k : Nat) (x : ByteArray) (h : L[k]? = some x) : (fil L k).setIfInBounds k (.string x) = fil L (k + 1) := by
  have hk : k < L.length := (List.getElem?_eq_some_iff.1 h).1
  apply Array.ext'
  have hl : ((L.take k).map Value.string).length = k := by simp; omega
  unfold fil
  rw [show L.length - k = (L.length - (k + 1)) + 1 by omega, List.replicate_succ, Array.toList_setIfInBounds, List.set_append_right _ _ (by omega), hl, Nat.sub_self, List.take_add_one, h]
  simp
theorem fil_at (L : List ByteArray) (k : Nat) (h : k < L.length) : (fil L k)[k]? = some (.string ⟨#[]⟩) := by
  have hl : ((L.take k).map Value.string).length = k := by simp; omega
  unfold fil
  rw [List.getElem?_toArray, List.getElem?_append_right (by omega), hl, Nat.sub_self, List.getElem?_replicate, if_pos (by omega)]
theorem fil_all (L : List ByteArray) {k : Nat} (h : L.length ≤ k) : fil L k = (L.map Value.string).toArray := by
  unfold fil
  rw [List.take_of_length_le h, Nat.sub_eq_zero_of_le h]
  simp
theorem leaf_z {w w1 wx : World} {tb n : Nat} {nf nn : Int} {rt : Value} {L : List ByteArray} (h : w.heap[tb]? = some (.cells #[rt, .int .i64 nf, .int .i64 nn] 65 (0, 0))) (hw1 : w1 = w.setCell ⟨tb, 2, none⟩ (.int .i64 (nn + 1))) (hn : n = L.length)
    (e : wx.heap = ((w1.alloc (.cells (madeCells #[Value.string ⟨#[]⟩] n) 9)).alloc (.cells #[.slice (some ⟨w1.heap.size, 0, none⟩) n n, .pointer none, .map none] 75)).heap) (e1 : wx.os = w1.os) (e2 : wx.tape = w1.tape) (e3 : wx.output = w1.output) :
    wx.heap[tb]? = some (.cells #[rt, .int .i64 nf, .int .i64 (nn + 1)] 65 (0, 0)) ∧ wx.heap[w1.heap.size + 1]? = some (.cells #[.slice (some ⟨w1.heap.size, 0, none⟩) n n, .pointer none, .map none] 75 (0, 0)) ∧ wx.heap[w1.heap.size]? = some (.cells (fil L 0) 9 (0, 0)) ∧ Ch (fun j => j = tb) w wx := by
  have hs1 : w1.heap.size = w.heap.size := by rw [hw1]; simp [World.setCell]
  have hl : tb < w.heap.size := (Array.getElem?_eq_some_iff.1 h).1
  have ha : ∀ (w : World) (o : Obj), (w.alloc o).heap.size = w.heap.size + 1 := fun w o => Array.size_push _
  have c1 : Ch (fun j => j = tb) w w1 := by rw [hw1]; exact ch_set tb 2 _
  have c2 := (ch_alloc (fun j => j = tb) w1 (.cells (madeCells #[Value.string ⟨#[]⟩] n) 9)).then (ch_alloc _ (w1.alloc (.cells (madeCells #[Value.string ⟨#[]⟩] n) 9)) (.cells #[.slice (some ⟨w1.heap.size, 0, none⟩) n n, .pointer none, .map none] 75))
  have c3 := c1.then c2
  rw [e]
  refine ⟨?_, ?_, ?_, ⟨e1.trans c1.os, e2.trans c1.tape, e3.trans c1.output, by rw [e]; exact c3.size, fun k hk hn => by rw [e]; exact c3.block k hk hn⟩⟩
  · rw [heap_alloc_old _ _ (by rw [ha]; omega), heap_alloc_old _ _ (by omega), hw1, heap_set h]
    rfl
  · have := heap_alloc_new (w1.alloc (.cells (madeCells #[Value.string ⟨#[]⟩] n) 9)) (.cells #[.slice (some ⟨w1.heap.size, 0, none⟩) n n, .pointer none, .map none] 75)
    rw [ha] at this
    exact this
  · rw [heap_alloc_old _ _ (by rw [ha]; omega), heap_alloc_new, fil_zero, hn]
theorem leaf_s {w w2 wr wx : World} {tb n gr k : Nat} {nf nn : Int} {rt : Value} {L : List ByteArray} {t : ByteArray} (hg : w.heap.size ≤ gr) (hz : wr.heap[tb]? = some (.cells #[rt, .int .i64 nf, .int .i64 (nn + 1)] 65 (0, 0)) ∧ wr.heap[gr + 1]? = some (.cells #[.slice (some ⟨gr, 0, none⟩) n n, .pointer none, .map none] 75 (0, 0)) ∧ wr.heap[gr]? = some (.cells (fil L k) 9 (0, 0)) ∧ Ch (fun j => j = tb) w wr) (ht : L[k]? = some t) (hb : Below wr.heap.size wr w2)
    (e : wx.heap = (w2.setCell ⟨gr, k, none⟩ (.string t)).heap) (e1 : wx.os = w2.os) (e2 : wx.tape = w2.tape) (e3 : wx.output = w2.output) :
    wx.heap[tb]? = some (.cells #[rt, .int .i64 nf, .int .i64 (nn + 1)] 65 (0, 0)) ∧ wx.heap[gr + 1]? = some (.cells #[.slice (some ⟨gr, 0, none⟩) n n, .pointer none, .map none] 75 (0, 0)) ∧ wx.heap[gr]? = some (.cells (fil L (k + 1)) 9 (0, 0)) ∧ Ch (fun j => j = tb) w wx := by
  obtain ⟨h1, h2, h3, h4⟩ := hz
  have g1 := later_at h1 hb
  have g2 := later_at h2 hb
  have g3 := later_at h3 hb
  have n1 : tb ≠ gr := fun q => by rw [q, h3] at h1; simp at h1
  have c := (h4.then (Below.ch hb)).trans (ch_set gr k (.string t)) (fun j hj q => absurd hj (by omega))
  rw [e]
  refine ⟨(heap_set_ne _ n1).trans g1, (heap_set_ne _ (by omega)).trans g2, ?_, ⟨e1.trans c.os, e2.trans c.tape, e3.trans c.output, by rw [e]; exact c.size, fun k hk hn => by rw [e]; exact c.block k hk hn⟩⟩
  rw [heap_set g3, fil_next L k t ht]
/-- What leaf leaves. -/
structure Lf (w w' : World) (tb g : Nat) (rt : Value) (nf nn : Int) (L : List ByteArray) : Prop where
  tr : w'.heap[tb]? = some (.cells #[rt, .int .i64 nf, .int .i64 (nn + 1)] 65 (0, 0))
  nd : ∃ lv, w'.heap[g]? = some (.cells #[lv, .pointer none, .map none] 75 (0, 0)) ∧ w'.ownsRow w.heap.size 9 1 lv L.length (L.map Value.string)
  ge : w.heap.size ≤ g
  ch : Ch (fun j => j = tb) w w'
set_option maxRecDepth 100000 in
set_option maxHeartbeats 4000000 in
theorem leaf_any {w : World} {tb : Nat} {nf nn : Int} {rt v : Value} {L : List ByteArray} (h : w.heap[tb]? = some (.cells #[rt, .int .i64 nf, .int .i64 nn] 65 (0, 0))) (R : Rw w v L) (hL : L.length ≤ 1000001) (hz : ∀ t ∈ L, t.size ≤ 1000000) (h0 : 0 ≤ nn) (hnn : nn < 1000000000) :
    Calls Tryz.prog 47 #[ptr tb, v] w fun e w' => ∃ g, e = .returned (ptr g) ∧ Lf w w' tb g rt nf nn L := by
  have hvt : ∀ g, v.ownBlock = some g → g ≠ tb := fun g hg => R.ne h (by decide) hg
  obtain ⟨a, n, cap, rfl, hn, hc, hrow⟩ := R.row
  have c3 := box_cells h 2 _ rfl
  have f3 := box_frozen h 2
  have hw3 : IntKind.i64.wrap (nn + 1) = nn + 1 := by rw [IntKind.wrap_i64]; omega
  have hmk := fun w => run_make_row' (P := Tryz.prog) 45 9 (.string ⟨#[]⟩) 16 Tryz.underlying45 info9 rfl .i64 .i64 n (by omega) (by omega) w
  have hdd : ∀ (w : World), (w.setCell ⟨tb, 2, none⟩ (.int .i64 (nn + 1))).heap.size = w.heap.size := fun w => by simp [World.setCell]
  unfold ptr at *
  go_enter Tryz.func47, Tryz.ntmps47
  go_upto_region 2 with fail
  obtain ⟨w1, hw1⟩ : ∃ w1, w1 = w.setCell ⟨tb, 2, none⟩ (.int .i64 (nn + 1)) := ⟨_, rfl⟩
  have hl : tb < w1.heap.size := by rw [hw1, hdd]; exact (Array.getElem?_eq_some_iff.1 h).1
  rw [← hw1]
  have HW1 := hidi hw1
  have HN := hidi hn
  have H := hidi h
  have HROW := hidi hrow
  clear c3 f3 hw1 hn h hrow hdd
  have hs1 : w1.heap.size = w.heap.size := by rw [HW1.out]; simp [World.setCell]
  have HS1 := hidi hs1
  have HVT := hidi hvt
  have HZ := hidi hz
  clear hvt hz R h0 hnn hs1
  go_cut [5] from 8 (fun s5 wx => s5 = ptr (w1.heap.size + 1) ∧ Hid (wx.heap[tb]? = some (.cells #[rt, .int .i64 nf, .int .i64 (nn + 1)] 65 (0, 0)) ∧ wx.heap[w1.heap.size + 1]? = some (.cells #[.slice (some ⟨w1.heap.size, 0, none⟩) n n, .pointer none, .map none] 75 (0, 0)) ∧ wx.heap[w1.heap.size]? = some (.cells (fil L 0) 9 (0, 0)) ∧ Ch (fun j => j = tb) w wx))
  case first =>
    go_wp2_with fail
    all_goals go_meet
    all_goals exact ⟨rfl, leaf_z H.out HW1.out HN.out rfl rfl rfl rfl⟩
  case rest =>
  obtain ⟨rfl, Z0⟩ := hcut
  clear hl hmk
  unfold ptr
  go_wp2_with fail
  go_loopg [6, 7, 22] n (fun gg s6 s7 s22 wx => ∃ k : Nat, k ≤ n ∧ gg = n - k ∧ s22 = .int .i64 k ∧ Hid (wx.heap[tb]? = some (.cells #[rt, .int .i64 nf, .int .i64 (nn + 1)] 65 (0, 0)) ∧ wx.heap[w1.heap.size + 1]? = some (.cells #[.slice (some ⟨w1.heap.size, 0, none⟩) n n, .pointer none, .map none] 75 (0, 0)) ∧ wx.heap[w1.heap.size]? = some (.cells (fil L k) 9 (0, 0)) ∧ Ch (fun j => j = tb) w wx))
  case atStart => exact ⟨0, Nat.zero_le _, rfl, rfl, Z0⟩
  case round =>
    obtain ⟨k, hk, rfl, rfl, Z⟩ := hrel
    by_cases hlt : k < n
    · have hlt' : (k : Int) < n := by omega
      obtain ⟨t, ht⟩ : ∃ t, L[k]? = some t := ⟨_, List.getElem?_eq_getElem (by have := HN.out; omega)⟩
      obtain ⟨g, o, rfl, hg, hcells⟩ := HROW.out (fun e => by subst e; simp at ht)
      have x1 : wr.cell? ⟨g, o + k, none⟩ = some (.string t) := by
        have := hcells k t ht
        unfold World.cell? at this ⊢
        simp only [Z.out.2.2.2.block g hg (HVT.out g rfl)]
        exact this
      have hw : IntKind.i64.wrap ((k : Int) + 1) = (k : Int) + 1 := by rw [IntKind.wrap_i64]; have := HN.out; omega
      have HT := hidi ht
      have CL := hidi (fun w => sclone_any t w (HZ.out t (List.mem_of_getElem? ht)))
      have a1 : wr.cell? ⟨w1.heap.size + 1, 0, none⟩ = some (.slice (some ⟨w1.heap.size, 0, none⟩) n n) := box_cells Z.out.2.1 0 _ rfl
      have KB := hidi (fun (w2 : World) (hb : Below wr.heap.size wr w2) => (show w2.cell? ⟨w1.heap.size + 1, 0, none⟩ = some (.slice (some ⟨w1.heap.size, 0, none⟩) n n) ∧ w2.cell? ⟨w1.heap.size, k, none⟩ = some (.string ⟨#[]⟩) ∧ w2.frozen? ⟨w1.heap.size, k, none⟩ = false from ⟨box_cells (later_at Z.out.2.1 hb) 0 _ rfl, box_cells (later_at Z.out.2.2.1 hb) k _ (fil_at L k (by have := HN.out; omega)), box_frozen (later_at Z.out.2.2.1 hb) k⟩))
      clear ht hcells hg
      go_upto_region 6 with fail
      go_region_with (go_at_call 46; refine (CL.out _).mono ?_; rintro e w2 ⟨rfl, hb⟩; have HB := hidi ((Below.refl wr.heap.size wr).drew.trans hb); clear hb a1; obtain ⟨a1, a2, a3⟩ := KB.out w2 HB.out)
      all_goals go_wp2_with fail
      all_goals go_roundg (n - (k + 1))
      all_goals first
        | omega
        | exact ⟨k + 1, by omega, rfl, rfl, leaf_s (by have := HS1.out; omega) Z.out HT.out HB.out rfl rfl rfl rfl⟩
    · have hlt' : ¬ (k : Int) < n := by omega
      obtain rfl : k = n := by omega
      go_wp2_with fail
      go_ret
      obtain ⟨z1, z2, z3, z4⟩ := Z.out
      refine ⟨w1.heap.size + 1, rfl, z1, ⟨_, z2, ?_⟩, by have := HS1.out; omega, z4⟩
      have hn := HN.out
      rw [fil_all L (by omega)] at z3
      refine ⟨by simp, .inr ⟨w1.heap.size, k, _, by rw [hn], by have := HS1.out; omega, z3, by omega, by unfold maxLen; omega, ?_, ?_⟩⟩
      · simp [hn]
      · rw [List.take_of_length_le (by simp [hn])]
end Go.Proofs.YtipagdhoeocjeaaGreat.Li
namespace Go.Proofs.YtipagdhoeocjeaaGreat.Li
open Go Go.RowKit
set_option linter.unusedSimpArgs false
set_option linter.unusedVariables false
/-- A row of texts is cloned, from any place on. -/
theorem clone_row {w : World} {g cap m k n : Nat} {L : List ByteArray} (R : w.ownsRow 0 9 1 (.slice (some ⟨g, 0, none⟩) m cap) m (L.map Value.string)) (hk : k + n ≤ m) (hm : m ≤ 1000001) (c : Nat) :
    Calls Tryz.prog 56 #[.slice (some ⟨g, k, none⟩) n c] w fun e w' => ∃ v', e = .returned v' ∧ w'.ownsRow w.heap.size 9 1 v' n (((L.drop k).take n).map Value.string) ∧ Below w.heap.size w w' := by
  have hl : L.length = m := by simpa using R.1
  obtain ⟨a, n', cap', e, hn, hc, hrow⟩ := (row_own R)
  refine (Tryz.slices_Clone_string g k n c (L.drop k) w (by rw [List.length_drop]; omega) (by omega) (fun j hj => ?_)).mono ?_
  · rw [List.length_drop] at hj
    obtain ⟨g', o', e', _, hcell⟩ := hrow (fun q => by subst q; simp at hj)
    simp only [Value.slice.injEq] at e
    rw [← e.1] at e'
    simp only [Option.some.injEq, Addr.mk.injEq, and_true] at e'
    have := hcell (k + j) (L.getD (k + j) ByteArray.empty) (by rw [List.getD_eq_getElem?_getD]; rw [List.getElem?_eq_getElem (by omega)]; rfl)
    rw [← e'.1, ← e'.2, Nat.zero_add] at this
    rw [this]
    congr 2
    rw [List.getD_eq_getElem?_getD, List.getD_eq_getElem?_getD, List.getElem?_drop]
  · rintro e w' ⟨v', rfl, h1, _, h2⟩
    exact ⟨v', rfl, h1, h2⟩
/-- What part leaves. -/
structure Pr (w w' : World) (tb p u at' : Nat) (rt ev kv : Value) (nf nn : Int) (L : List ByteArray) (x : ByteArray) : Prop where
  tr : w'.heap[tb]? = some (.cells #[rt, .int .i64 nf, .int .i64 (nn + 1)] 65 (0, 0))
  nd : ∃ lp, w'.heap[p]? = some (.cells #[lp, ev, kv] 75 (0, 0)) ∧ w'.ownsRow w.heap.size 9 1 lp (L.length - at') ((L.drop at').map Value.string)
  up : ∃ lu mb, w'.heap[u]? = some (.cells #[lu, .pointer none, .map (some mb)] 75 (0, 0)) ∧ w'.ownsRow w.heap.size 9 1 lu at' ((L.take at').map Value.string) ∧ MG w' (.map (some mb)) 1 (setG (fun _ => none) x (some (ptr p))) ∧ w.heap.size ≤ mb
  ge : w.heap.size ≤ u
  ch : Ch (fun j => j = tb ∨ j = p) w w'
/-- The state of part when the upper node is made. -/
structure Pq (w wx : World) (tb p n g cap u k : Nat) (rt ev kv lu : Value) (nf nn : Int) (L : List ByteArray) : Prop where
  tr : wx.heap[tb]? = some (.cells #[rt, .int .i64 nf, .int .i64 (nn + 1)] 65 (0, 0))
  nd : wx.heap[p]? = some (.cells #[.slice (some ⟨g, 0, none⟩) n cap, ev, kv] 75 (0, 0))
  row : wx.ownsRow 0 9 1 (.slice (some ⟨g, 0, none⟩) n cap) n (L.map Value.string)
  up : wx.heap[u]? = some (.cells #[lu, .pointer none, .map none] 75 (0, 0))
  ur : wx.ownsRow w.heap.size 9 1 lu k ((L.take k).map Value.string)
  ge : w.heap.size ≤ u
  ch : Ch (fun j => j = tb) w wx
theorem part_z {w w1 w2 wx : World} {tb p n g cap k : Nat} {rt ev kv lu : Value} {nf nn : Int} {L : List ByteArray} (h1 : w1.heap[tb]? = some (.cells #[rt, .int .i64 nf, .int .i64 (nn + 1)] 65 (0, 0))) (hp1 : w1.heap[p]? = some (.cells #[.slice (some ⟨g, 0, none⟩) n cap, ev, kv] 75 (0, 0))) (R1 : w1.ownsRow 0 9 1 (.slice (some ⟨g, 0, none⟩) n cap) n (L.map Value.string)) (c1 : Ch (fun j => j = tb) w w1) (hs : w1.heap.size = w.heap.size) (hb : Below w1.heap.size w1 w2) (hu : w2.ownsRow w1.heap.size 9 1 lu k ((L.take k).map Value.string))
    (e : wx.heap = (w2.alloc (.cells #[lu, .pointer none, .map none] 75)).heap) (e1 : wx.os = w2.os) (e2 : wx.tape = w2.tape) (e3 : wx.output = w2.output) : Pq w wx tb p n g cap w2.heap.size k rt ev kv lu nf nn L := by
  have c2 := c1.then ((Below.ch (S := fun j => j = tb) hb).then (ch_alloc _ w2 (.cells #[lu, .pointer none, .map none] 75)))
  have cx : Ch (fun j => j = tb) w wx := ⟨e1.trans (hb.os.trans c1.os), e2.trans (hb.tape.trans c1.tape), e3.trans (hb.output.trans c1.output), by rw [e]; exact c2.size, fun j hj hn => by rw [e]; exact c2.block j hj hn⟩
  have old : ∀ j, j < w2.heap.size → wx.heap[j]? = w2.heap[j]? := fun j hj => by rw [e, heap_alloc_old _ _ hj]
  have ex : Ch (fun _ => False) w2 wx := ⟨e1, e2, e3, by rw [e]; exact (ch_alloc (fun _ => False) w2 _).size, fun j hj _ => old j hj⟩
  have g1 := later_at h1 hb
  have g2 := later_at hp1 hb
  refine ⟨(old _ (Array.getElem?_eq_some_iff.1 g1).1).trans g1, (old _ (Array.getElem?_eq_some_iff.1 g2).1).trans g2, own_ch (own_below R1 hb) ex (fun _ _ q => q), ?_, ?_, by have := hb.size; omega, cx⟩
  · rw [e]
    exact heap_alloc_new _ _
  · rw [← hs]
    exact own_ch hu ex (fun _ _ q => q)
theorem drop_at {L : List ByteArray} {k : Nat} {x : ByteArray} (h : L[k]? = some x) : L.drop k = x :: L.drop (k + 1) := by
  obtain ⟨hi, e⟩ := List.getElem?_eq_some_iff.1 h
  rw [List.drop_eq_getElem_cons hi, e]
/-- What hang leaves makes what part leaves. -/
theorem part_end {w wc w4 w5 w6 : World} {tb p n g cap u k : Nat} {rt ev kv lu lp : Value} {nf nn : Int} {L : List ByteArray} {x : ByteArray} (q : Pq w wc tb p n g cap u k rt ev kv lu nf nn L) (hll : L.length = n) (hp : p < w.heap.size) (hb : Below wc.heap.size wc w4) (hr : w4.ownsRow wc.heap.size 9 1 lp (n - k) ((L.drop k).map Value.string)) (e5 : w5 = w4.setCell ⟨p, 0, none⟩ lp) (hx : okT x) (hg : Hg w5 w6 u lu (.pointer none) (.map none) 0 (fun _ => none) x p) : Pr w w6 tb p u k rt ev kv nf nn L x := by
  obtain ⟨⟨mb, u1, u2, u3⟩, hc⟩ := hg
  have gp := later_at q.nd hb
  have gt := later_at q.tr hb
  have gu := later_at q.up hb
  have hup : u ≠ p := fun e => by have := q.ge; omega
  have htp : tb ≠ p := fun e => by have := q.tr; rw [e, q.nd] at this; simp at this
  have htu : tb ≠ u := fun e => by have := q.tr; rw [e, q.up] at this; simp at this
  have c5 : Ch (fun j => j = p) w4 w5 := by rw [e5]; exact ch_set p 0 lp
  have c6 : Ch (fun j => j = u) w5 w6 := hc.mono (fun j _ e => e.elim id (fun e => by cases e))
  have hmb : mb = w5.heap.size := by
    rcases u3 with e | ⟨_, e⟩
    · cases e
    · exact e
  have s1 := q.ch.size
  have s2 := hb.size
  have s3 := c5.size
  have lpl := (Array.getElem?_eq_some_iff.1 gp).1
  have ltl := (Array.getElem?_eq_some_iff.1 gt).1
  have p5 : w5.heap[p]? = some (.cells #[lp, ev, kv] 75 (0, 0)) := by rw [e5, heap_set gp]; rfl
  refine ⟨?_, ⟨lp, ?_, ?_⟩, ⟨lu, mb, u1, ?_, ?_, by omega⟩, q.ge, ?_⟩
  · exact (c6.block tb (by omega) htu).trans ((c5.block tb ltl htp).trans gt)
  · exact (c6.block p (by omega) (fun e => hup e.symm)).trans p5
  · rw [hll]
    have r5 := own_ch hr c5 (fun j hj e => by have := row_ge hr hj; have := (Array.getElem?_eq_some_iff.1 q.nd).1; omega)
    have r6 := own_ch r5 c6 (fun j hj e => by have := row_ge hr hj; have := (Array.getElem?_eq_some_iff.1 q.up).1; omega)
    exact row_base r6 (fun j hj => by have := row_ge hr hj; omega)
  · have nb : ∀ j, lu.ownBlock = some j → j ≠ p ∧ j ≠ u := fun j hj => by
      obtain ⟨cur, e⟩ := own_lt q.ur hj
      refine ⟨fun f => ?_, fun f => ?_⟩
      · rw [f, q.nd] at e; simp at e
      · rw [f, q.up] at e; simp at e
    exact own_ch (own_ch (own_below q.ur hb) c5 (fun j hj => (nb j hj).1)) c6 (fun j hj => (nb j hj).2)
  · exact u2
  · exact (((q.ch.mono (fun j _ e => .inl e)).then (Below.ch hb)).trans c5 (fun j _ e => .inr e)).trans c6 (fun j hj e => absurd hj (by have := q.ge; omega))
theorem part_mid {w wc w4 w5 : World} {tb p n g cap u k : Nat} {rt ev kv lu lp : Value} {nf nn : Int} {L : List ByteArray} {x : ByteArray} (q : Pq w wc tb p n g cap u k rt ev kv lu nf nn L) (hp : p < w.heap.size) (hb : Below wc.heap.size wc w4) (hr : w4.ownsRow wc.heap.size 9 1 lp (n - k) ((L.drop k).map Value.string)) (e5 : w5 = w4.setCell ⟨p, 0, none⟩ lp) (hx : L[k]? = some x) (hok : okT x) :
    Calls Tryz.prog 50 #[ptr u, ptr p] w5 fun e w' => e = .returned (.tuple #[]) ∧ Hg w5 w' u lu (.pointer none) (.map none) 0 (fun _ => none) x p := by
  have gp := later_at q.nd hb
  have gu := later_at q.up hb
  have hup : u ≠ p := fun e => by have := q.ge; omega
  have R5 : w5.ownsRow 0 9 1 lp (n - k) ((x :: L.drop (k + 1)).map Value.string) := by
    rw [← drop_at hx, e5]
    refine own_ch (own0 hr) (ch_set p 0 lp) (fun j hj e => ?_)
    have := row_ge hr hj
    have := (Array.getElem?_eq_some_iff.1 q.nd).1
    omega
  refine hang_any (lv := lu) (ev := .pointer none) (kv := .map none) (e2 := ev) (k2 := kv) (m := n - k) (lq := lp) ?_ ?_ (fun e => hup e.symm) R5 hok (MG.nil _) (by omega)
  · rw [e5]
    exact (heap_set_ne _ hup).trans gu
  · rw [e5, heap_set gp]
    rfl
set_option maxRecDepth 100000 in
set_option maxHeartbeats 4000000 in
theorem part_any {w : World} {tb p n k : Nat} {rt lv ev kv : Value} {nf nn : Int} {L : List ByteArray} {x : ByteArray} (h : w.heap[tb]? = some (.cells #[rt, .int .i64 nf, .int .i64 nn] 65 (0, 0))) (hp : w.heap[p]? = some (.cells #[lv, ev, kv] 75 (0, 0)))
    (R : w.ownsRow 0 9 1 lv n (L.map Value.string)) (hk : 0 < k) (hkn : k < n) (hL : n ≤ 1000001) (hx : L[k]? = some x) (hxo : okT x) (h0 : 0 ≤ nn) (hnn : nn < 1000000000) :
    Calls Tryz.prog 49 #[ptr tb, ptr p, .int .i64 k] w fun e w' => ∃ u, e = .returned (ptr u) ∧ Pr w w' tb p u k rt ev kv nf nn L x := by
  have hll : L.length = n := by simpa using R.1
  obtain ⟨g, cap, rfl, hcap⟩ : ∃ g cap, lv = .slice (some ⟨g, 0, none⟩) n cap ∧ n ≤ cap := by
    rcases R.2 with ⟨_, e⟩ | ⟨g, cap, cur, rfl, _, _, h4, _⟩
    · omega
    · exact ⟨g, cap, rfl, h4⟩
  have hpl : p < w.heap.size := (Array.getElem?_eq_some_iff.1 hp).1
  have htl : tb < w.heap.size := (Array.getElem?_eq_some_iff.1 h).1
  have hne : tb ≠ p := fun e => by rw [e, hp] at h; simp at h
  have hgt : g ≠ tb := fun e => by obtain ⟨cur, hc⟩ := own_lt R rfl; rw [e, h] at hc; simp at hc
  have hgp : g ≠ p := fun e => by obtain ⟨cur, hc⟩ := own_lt R rfl; rw [e, hp] at hc; simp at hc
  have c3 := box_cells h 2 _ rfl
  have f3 := box_frozen h 2
  have hw3 : IntKind.i64.wrap (nn + 1) = nn + 1 := by rw [IntKind.wrap_i64]; omega
  obtain ⟨w1, hw1⟩ : ∃ w1, w1 = w.setCell ⟨tb, 2, none⟩ (.int .i64 (nn + 1)) := ⟨_, rfl⟩
  have hs1 : w1.heap.size = w.heap.size := by rw [hw1]; simp [World.setCell]
  have ch1 : Ch (fun j => j = tb) w w1 := by rw [hw1]; exact ch_set tb 2 _
  have h1 : w1.heap[tb]? = some (.cells #[rt, .int .i64 nf, .int .i64 (nn + 1)] 65 (0, 0)) := by rw [hw1, heap_set h]; rfl
  have hp1 : w1.heap[p]? = some (.cells #[.slice (some ⟨g, 0, none⟩) n cap, ev, kv] 75 (0, 0)) := by rw [hw1]; exact (heap_set_ne _ (fun e => hne e.symm)).trans hp
  have R1 := own_ch R ch1 (fun j hj q => hgt (by cases hj; exact q))
  have e1 := box_cells hp1 0 _ rfl
  have hki : (k : Int) ≤ n := by omega
  have hki2 : (k : Int) ≤ cap := by omega
  have hk0 : (0 : Int) ≤ k := by omega
  unfold ptr at *
  have HW1 := hidi hw1
  have H1 := hidi h1
  have HP1 := hidi hp1
  have HS := hidi (And.intro h1 hp1)
  have HR1 := hidi R1
  have HCH1 := hidi ch1
  have HS1 := hidi hs1
  have HLL := hidi hll
  have HPL := hidi hpl
  have HX := hidi hx
  have HXO := hidi hxo
  have HK := hidi (show 0 < k ∧ k < n ∧ n ≤ cap ∧ n ≤ 1000001 from ⟨hk, hkn, hcap, hL⟩)
  have KB := hidi (fun (w2 : World) (hb : Below w1.heap.size w1 w2) => (show w2.cell? ⟨p, 0, none⟩ = some (.slice (some ⟨g, 0, none⟩) n cap) from box_cells (later_at HS.out.2 hb) 0 _ rfl))
  have CL := hidi (fun (w2 : World) (hb : Below w1.heap.size w1 w2) => clone_row (k := 0) (n := k) (own_below HR1.out hb) (by omega) hL cap)
  unfold ptr at KB
  clear h hp R hx hxo h0 hnn hpl htl hne hgt hgp hw1 hs1 ch1 h1 hp1 R1 hll hk hkn hcap hL
  go_enter Tryz.func49, Tryz.ntmps49
  go_upto_region 2 with fail
  rw [← HW1.out]
  clear c3 f3
  go_cut [7] from 8 (fun s7 wx => ∃ (u : Nat) (lu : Value), s7 = .pointer (some ⟨u, 0, none⟩) ∧ Hid (Pq w wx tb p n g cap u k rt ev kv lu nf nn L))
  case first =>
    go_wp2_with (go_at_call 56; refine (CL.out _ (Below.refl w1.heap.size w1)).mono ?_; rintro e w2 ⟨lu, rfl, hlu, hb⟩; obtain ⟨la, lc, rfl⟩ := own_sl hlu; have HU := hidi hlu; have HB := hidi hb; clear hlu hb e1; have e1 := KB.out w2 HB.out)
    all_goals go_meet
    all_goals exact ⟨_, _, rfl, part_z H1.out HP1.out HR1.out HCH1.out HS1.out HB.out HU.out rfl rfl rfl rfl⟩
  case rest =>
  obtain ⟨u, lu, rfl, Q⟩ := hcut
  clear e1 KB CL
  have e1 := box_cells Q.out.nd 0 _ rfl
  have CL := hidi (clone_row (k := k) (n := n - k) Q.out.row (by have := HK.out; omega) HK.out.2.2.2 (cap - k))
  have hck : ¬ cap = k := by have := HK.out; omega
  have KE := hidi (fun (w4 : World) (hb : Below wc.heap.size wc w4) => (show w4.cell? ⟨p, 0, none⟩ = some (.slice (some ⟨g, 0, none⟩) n cap) ∧ w4.frozen? ⟨p, 0, none⟩ = false from ⟨box_cells (later_at Q.out.nd hb) 0 _ rfl, box_frozen (later_at Q.out.nd hb) 0⟩))
  have HG := hidi (fun (w4 w5 : World) (lp : Value) (hb : Below wc.heap.size wc w4) (hr : w4.ownsRow wc.heap.size 9 1 lp (n - k) ((L.drop k).map Value.string)) (e5 : w5 = w4.setCell ⟨p, 0, none⟩ lp) => part_mid Q.out HPL.out hb hr e5 HX.out HXO.out)
  unfold ptr at HG
  have hdr : (L.drop k).take (n - k) = L.drop k := List.take_of_length_le (by rw [List.length_drop, HLL.out]; exact Nat.le_refl _)
  rw [hdr] at CL
  clear hdr
  go_wp2_with (first
    | (go_at_call 56; refine CL.out.mono ?_; rintro e w4 ⟨lp, rfl, hr, hb⟩; obtain ⟨la, lc, rfl⟩ := own_sl hr; clear e1; obtain ⟨a1, a2⟩ := KE.out w4 hb; have CC := hidi (HG.out w4 _ _ hb hr rfl); have HRR := hidi hr; have HBB := hidi hb; clear hr hb CL KE HG)
    | (go_at_call 50; refine CC.out.mono ?_; rintro e w6 ⟨rfl, hg⟩; have HH := hidi hg; clear hg CC))
  go_ret
  exact ⟨u, rfl, part_end Q.out HLL.out HPL.out HBB.out HRR.out rfl HXO.out HH.out⟩
end Go.Proofs.YtipagdhoeocjeaaGreat.Li
