import Derived.Test.YtepjcfhbbcaldaaGreatKjl
import Derived.Test.YtepjcfhbbcaldaaGreatKzb
import Derived.Test.YtepjcfhbbcaldaaGreatKe
namespace Go.Proofs.YtepjcfhbbcaldaaGreat.Li
open Go Go.RowKit
set_option linter.unusedSimpArgs false
set_option linter.unusedVariables false
variable {w : World} {tb m r P : Nat} {nf nn : Int} {T : List Fn} {d f g k : Fn} {L : List ByteArray} {x y0 : ByteArray} {v : Value} {q : Int}
theorem alk_pre : ∀ {a b : List ByteArray}, a <+: b → alk a b = a.length
  | [], b, _ => by cases b <;> rfl
  | x :: a, [], h => by have := h.length_le; simp at this
  | x :: a, y :: b, h => by
    obtain ⟨t, e⟩ := h
    rw [List.cons_append] at e
    injection e with e1 e2
    unfold alk
    rw [if_pos e1, alk_pre ⟨t, e2⟩]
    simp
    try omega
set_option maxRecDepth 100000 in
set_option maxHeartbeats 4000000 in
theorem alike_dr (l1 l2 : List ByteArray) (v1 v2 : Value) (w : World) (R1 : Row w v1 l1) (R2 : Row w v2 l2) (hl1 : l1.length ≤ 1000001) (hl2 : l2.length ≤ 1000001) : Calls Tryz.prog 38 #[v1, v2] w fun e w' => e = .returned (.int .i64 (alk l1 l2)) ∧ ∃ M, w' = w.drewN M := by
  obtain ⟨x, hx⟩ : ∃ x, x = alk l1 l2 := ⟨_, rfl⟩
  rw [← hx]
  have HX : Hid (x = 0 + alk (l1.drop 0) (l2.drop 0)) := by show _ = _; simpa using hx
  obtain ⟨a, n, cap, rfl, hn, hc, hrow⟩ := R1
  obtain ⟨a2, n2, cap2, rfl, hn2, hc2, hrow2⟩ := R2
  have HN : Hid (n = l1.length ∧ n ≤ cap ∧ l1.length ≤ 1000001) := ⟨hn, hc, hl1⟩
  have HM : Hid (n2 = l2.length ∧ n2 ≤ cap2 ∧ l2.length ≤ 1000001) := ⟨hn2, hc2, hl2⟩
  have HA : Hid (l1 ≠ [] → ∃ g o, a = some ⟨g, o, none⟩ ∧ g < w.heap.size ∧ ∀ k x, l1[k]? = some x → w.cell? ⟨g, o + k, none⟩ = some (.string x)) := hrow
  have HC : Hid (l2 ≠ [] → ∃ g o, a2 = some ⟨g, o, none⟩ ∧ g < w.heap.size ∧ ∀ k x, l2[k]? = some x → w.cell? ⟨g, o + k, none⟩ = some (.string x)) := hrow2
  obtain ⟨q, hq⟩ : ∃ q : Nat, q = min n n2 := ⟨_, rfl⟩
  have hqi : min (n : Int) (n2 : Int) = (q : Int) := by omega
  have HQ : Hid (q ≤ n ∧ q ≤ n2 ∧ q = min n n2) := by constructor <;> omega
  clear hx hn hc hl1 hrow hn2 hc2 hl2 hrow2 hq
  go_enter Tryz.func38, Tryz.ntmps38
  go_wp2_with fail
  go_loopg [5] q (fun gg s5 wx => ∃ k : Nat, k ≤ q ∧ gg = q - k ∧ s5 = .int .i64 k ∧ Hid (∃ M, wx = w.drewN M) ∧ Hid (x = k + alk (l1.drop k) (l2.drop k)))
  case atStart => exact ⟨0, Nat.zero_le _, rfl, rfl, ⟨0, rfl⟩, HX⟩
  case round =>
    obtain ⟨k, hk, rfl, rfl, B, HE⟩ := hrel
    by_cases hlt : k < q
    · have hlt' : (k : Int) < q := by omega
      obtain ⟨t, ht⟩ : ∃ t, l1[k]? = some t := ⟨_, List.getElem?_eq_getElem (by have := HN.out.1; have := HQ.out; omega)⟩
      obtain ⟨u, hu⟩ : ∃ u, l2[k]? = some u := ⟨_, List.getElem?_eq_getElem (by have := HM.out.1; have := HQ.out; omega)⟩
      obtain ⟨g, o, rfl, hg, hcells⟩ := HA.out (fun e => by subst e; simp at ht)
      obtain ⟨g2, o2, rfl, hg2, hcells2⟩ := HC.out (fun e => by subst e; simp at hu)
      have c1 : wr.cell? ⟨g, o + k, none⟩ = some (.string t) := by obtain ⟨M, hM⟩ := B.out; rw [hM]; exact hcells k t ht
      have c2 : wr.cell? ⟨g2, o2 + k, none⟩ = some (.string u) := by obtain ⟨M, hM⟩ := B.out; rw [hM]; exact hcells2 k u hu
      have hw : IntKind.i64.wrap ((k : Int) + 1) = (k : Int) + 1 := by rw [IntKind.wrap_i64]; have := HN.out; have := HQ.out; omega
      have i1 : (k : Int) < n := by have := HQ.out; omega
      have i2 : (k : Int) < n2 := by have := HQ.out; omega
      have HS := hidi (alk_on ht hu)
      clear ht hu hcells hcells2 hg hg2
      by_cases he : t = u
      · have hey : (t.toList == u.toList) = true := by rw [teq]; exact decide_eq_true he
        have HF : Hid (x = k + 1 + alk (l1.drop (k + 1)) (l2.drop (k + 1))) := by
          show _ = _
          have := HS.out
          rw [if_pos he] at this
          have := HE.out
          omega
        clear HS HE he
        go_wp2_with fail
        go_quiet (fail)
        go_wp2_with fail
        go_roundg (q - (k + 1))
        case measure => omega
        case rel => exact ⟨k + 1, by omega, rfl, rfl, (by obtain ⟨M, hM⟩ := B.out; exact ⟨M + nq, by rw [hM, World.drewN_drewN]⟩), HF⟩
      · have hey : (t.toList == u.toList) = false := by rw [teq]; exact decide_eq_false he
        have HF : Hid (x = k) := by
          show _ = _
          have := HS.out
          rw [if_neg he] at this
          have := HE.out
          omega
        clear HS HE he
        go_wp2_with fail
        go_quiet (fail)
        go_wp2_with fail
        go_ret
        exact ⟨by have := HF.out; subst this; rfl, (by obtain ⟨M, hM⟩ := B.out; exact ⟨M + nq, by rw [hM, World.drewN_drewN]⟩)⟩
    · have hlt' : ¬ (k : Int) < q := by omega
      have HF : Hid (x = k) := by
        show _ = _
        have h1 := HN.out
        have h2 := HM.out
        have h3 := HQ.out
        have := HE.out
        rw [alk_end (by omega)] at this
        omega
      go_wp2_with fail
      go_quiet (fail)
      go_wp2_with fail
      go_ret
      exact ⟨by have := HF.out; subst this; rfl, (by obtain ⟨M, hM⟩ := B.out; exact ⟨M + nq, by rw [hM, World.drewN_drewN]⟩)⟩
/-- Where levels end. -/
def AtR (T : List Fn) (F : List ByteArray) (mv : Value) : Prop := (∃ g ∈ T, g.s.A = F ∧ mv = g.ev) ∨ (mv = .map none ∧ ∀ g ∈ T, g.s.A ≠ F)
def AtOk (tb m r : Nat) (nf nn : Int) (T : List Fn) (N : Nat) : Prop := ∀ (w : World) (f : Fn) (v : Value) (L : List ByteArray), L.length ≤ N → TM w tb m r nf nn T → f ∈ T → Rw w v L → (∀ t ∈ L, okT t) → L.length ≤ 1000001 →
  Calls Tryz.prog 24 #[ptr f.s.p, v] w fun e w' => ∃ mo, e = .returned (.map mo) ∧ AtR T (f.s.A ++ L) (.map mo) ∧ Below w.heap.size w w'
set_option maxRecDepth 100000 in
set_option maxHeartbeats 4000000 in
theorem at_zero (h : TM w tb m r nf nn T) (hf : f ∈ T) (R : Rw w v []) : Calls Tryz.prog 24 #[ptr f.s.p, v] w fun e w' => ∃ mo, e = .returned (.map mo) ∧ AtR T (f.s.A ++ []) (.map mo) ∧ Below w.heap.size w w' := by
  obtain ⟨a, cap, rfl⟩ := R.row.nil
  obtain ⟨mo, hmo⟩ := map_of (h.nd f hf).ev
  have c2 : w.cell? ⟨f.s.p, 2, none⟩ = some (.map mo) := by rw [← hmo]; exact box_cells (h.nd f hf).at_ 2 _ rfl
  have FIN := hidi (show AtR T (f.s.A ++ []) (.map mo) from .inl ⟨f, hf, by simp, hmo.symm⟩)
  unfold ptr at *
  clear h hf R hmo
  go_enter Tryz.func24, Tryz.ntmps24
  go_wp2_with fail
  go_ret
  exact ⟨mo, rfl, FIN.out, Below.refl _ _⟩
set_option maxRecDepth 100000 in
set_option maxHeartbeats 4000000 in
theorem at_cons {z : ByteArray} {rs : List ByteArray} {N : Nat} (IH : AtOk tb m r nf nn T N) (h : TM w tb m r nf nn T) (hf : f ∈ T) (R : Rw w v (z :: rs)) (hN : rs.length ≤ N) (okL : ∀ t ∈ z :: rs, okT t) (hl : (z :: rs).length ≤ 1000001) :
    Calls Tryz.prog 24 #[ptr f.s.p, v] w fun e w' => ∃ mo, e = .returned (.map mo) ∧ AtR T (f.s.A ++ z :: rs) (.map mo) ∧ Below w.heap.size w w' := by
  have oz := okL z List.mem_cons_self
  obtain ⟨nk, kd, b1, b2, b3, b4⟩ := h.look hf oz
  have fd := h.nd f hf
  obtain ⟨ko, hko⟩ := map_of b2
  obtain ⟨g0, o, n, cap, rfl, hn, hcap, hgl, hc0, -⟩ := R.row.cons
  have c3 : w.cell? ⟨f.s.p, 3, none⟩ = some (.map ko) := by rw [← hko]; exact box_cells fd.at_ 3 _ rfl
  have LK2 : ∀ M, (Instr.lookup 69 (.map ko) (.string z) true).run Tryz.prog (w.drewN M) = .ok (.tuple #[(kd z).getD (.pointer none), .bool (kd z).isSome]) (w.drewN M) := fun M => by
    have bd : Below w.heap.size w (w.drewN M) := below_drewN (Below.refl _ _)
    have := (b2.keep (w' := w.drewN M) (fun b e => bd.block b (b2.lt e))).look2 Tryz.underlying69 zero59 oz
    rw [hko] at this
    exact this
  have e0 : ((n : Int) == 0) = false := by rw [beq_eq_false_iff_ne]; omega
  have p0 : (0 : Int) < n := by omega
  rcases b4 with ⟨k, hk, ka, hkz⟩ | ⟨hkz, no⟩
  · have hlook : ∀ M, (Instr.lookup 69 (.map ko) (.string z) true).run Tryz.prog (w.drewN M) = .ok (.tuple #[ptr k.s.p, .bool true]) (w.drewN M) := fun M => by rw [LK2 M, hkz]; rfl
    clear LK2
    have fk := h.nd k hk
    have km := (h.inv.le k.s ka.1).1
    have klen := edge_len k.s km
    have ktop := ka.2.1.2.1
    obtain ⟨qa, qc, hlv⟩ : ∃ qa qc, k.lv = .slice qa k.s.m qc := own_sl fk.lv
    obtain ⟨j, hj⟩ : ∃ j, j = alk k.s.edge (z :: rs) := ⟨_, rfl⟩
    have kle := alk_le k.s.edge (z :: rs)
    rw [← hj] at kle
    have ktk := alk_take k.s.edge (z :: rs)
    rw [← hj] at ktk
    have CQ := hidi (fun (w2 : World) (hb : Below w.heap.size w w2) => (show w2.cell? ⟨k.s.p, 1, none⟩ = some (.slice qa k.s.m qc) from by rw [← hlv]; exact box_cells ((h.below hb).nd k hk).at_ 1 _ rfl))
    have AL := hidi (fun (w2 : World) (hb : Below w.heap.size w w2) => (show Calls Tryz.prog 38 #[.slice qa k.s.m qc, .slice (some ⟨g0, o, none⟩) n cap] w2 fun e w' => e = .returned (.int .i64 j) ∧ ∃ M, w' = w2.drewN M from by
      rw [hj, ← hlv]
      exact alike_dr k.s.edge (z :: rs) _ _ w2 (row_own ((h.below hb).nd k hk).lv) (R.below hb).row (by have := (h.ok k hk).2; omega) hl))
    by_cases jm : j < k.s.m
    · have jmi : (j : Int) < k.s.m := by omega
      have FIN := hidi (show AtR T (f.s.A ++ z :: rs) (.map none) from by
        refine .inr ⟨rfl, fun g hg e => ?_⟩
        obtain ⟨k', hk', ka', kp⟩ := atk_rest h hf hg e
        have := h.inv.atk ka ka'
        obtain rfl := h.same hk hk' (congrArg Nd.A this)
        have pe : k.s.edge <+: z :: rs := by
          obtain ⟨t, et⟩ := kp
          refine ⟨t, ?_⟩
          have h1 := congrArg (List.drop f.s.A.length) et
          rw [e, List.drop_left, List.drop_append_of_le_length (by have := len_take k.s km; omega)] at h1
          unfold Nd.edge
          rw [ktop]
          exact h1
        have := alk_pre pe
        omega)
      unfold ptr at *
      clear IH h hf R hN okL hl oz b1 b2 b3 fd hko hn hcap hgl hk ka hkz fk km klen ktop hlv hj kle ktk jm
      go_enter Tryz.func24, Tryz.ntmps24
      go_wp2_with fail
      go_quiet (fail)
      obtain ⟨w1, hw1⟩ : ∃ w1, w1 = w.drewN nq := ⟨_, rfl⟩
      have B1 : Hid (Below w.heap.size w w1) := by show Below _ _ _; rw [hw1]; exact below_drewN (Below.refl _ _)
      rw [← hw1]
      clear hw1 hlook c3 hc0
      have l2 := CQ.out w1 B1.out
      go_wp2_with fail
      have AQ := hidi (fun K => AL.out (w1.drewN K) (below_drewN B1.out))
      go_quiet ((go_at_call 38; exact Calls.quiet_of (AQ.out _)))
      obtain ⟨w3, hw3⟩ : ∃ w3, w3 = w1.drewN nq := ⟨_, rfl⟩
      have B3 : Hid (Below w.heap.size w w3) := by show Below _ _ _; rw [hw3]; exact below_drewN B1.out
      rw [← hw3]
      clear hw3 AL AQ l2
      have l2 := CQ.out w3 B3.out
      all_goals go_wp2_with fail
      all_goals go_ret
      all_goals exact ⟨none, rfl, FIN.out, B3.out⟩
    · have jmi : ¬ (j : Int) < k.s.m := by omega
      have jk : j = k.s.m := by omega
      have hmn : k.s.m ≤ n := by have := kle.2; simp at this; omega
      have eA : k.s.A = f.s.A ++ (z :: rs).take k.s.m := by
        rw [← jk, ← ktk, jk, List.take_of_length_le (by omega), ← ka.2.1.2.2]
        unfold Nd.edge
        rw [List.take_append_drop]
      have eF : k.s.A ++ (z :: rs).drop k.s.m = f.s.A ++ z :: rs := by rw [eA, List.append_assoc, List.take_append_drop]
      have k0 := ka.2.1.1
      have IC := hidi (fun (w1 : World) (hb : Below w.heap.size w w1) => (show Calls Tryz.prog 24 #[ptr k.s.p, .slice (if cap = k.s.m then some ⟨g0, o, none⟩ else some ⟨g0, o + k.s.m, none⟩) (n - k.s.m) (cap - k.s.m)] w1 fun e w' => ∃ mo, e = .returned (.map mo) ∧ AtR T (f.s.A ++ z :: rs) (.map mo) ∧ Below w.heap.size w w' from by
        have := IH w1 k _ ((z :: rs).drop k.s.m) (by rw [List.length_drop, List.length_cons]; omega) (h.below hb) hk ((R.below hb).drop hmn) (fun t ht => okL t (List.mem_of_mem_drop ht)) (by rw [List.length_drop]; omega)
        rw [eF] at this
        refine this.mono ?_
        rintro e w' ⟨mo, rfl, ar, b'⟩
        exact ⟨mo, rfl, ar, hb.trans (b'.mono hb.size)⟩))
      have i1 : (k.s.m : Int) ≤ n := by omega
      have i2 : (k.s.m : Int) ≤ cap := by omega
      have i3 : (0 : Int) ≤ k.s.m := by omega
      unfold ptr at *
      clear IH h hf R hN okL hl oz b1 b2 b3 fd hko hn hcap hgl hk ka hkz fk km klen ktop hlv hj kle ktk jm jk hmn eA eF k0
      go_enter Tryz.func24, Tryz.ntmps24
      go_wp2_with fail
      go_quiet (fail)
      obtain ⟨w1, hw1⟩ : ∃ w1, w1 = w.drewN nq := ⟨_, rfl⟩
      have B1 : Hid (Below w.heap.size w w1) := by show Below _ _ _; rw [hw1]; exact below_drewN (Below.refl _ _)
      rw [← hw1]
      clear hw1 hlook c3 hc0
      have l2 := CQ.out w1 B1.out
      go_wp2_with fail
      have AQ := hidi (fun K => AL.out (w1.drewN K) (below_drewN B1.out))
      go_quiet ((go_at_call 38; exact Calls.quiet_of (AQ.out _)))
      obtain ⟨w3, hw3⟩ : ∃ w3, w3 = w1.drewN nq := ⟨_, rfl⟩
      have B3 : Hid (Below w.heap.size w w3) := by show Below _ _ _; rw [hw3]; exact below_drewN B1.out
      rw [← hw3]
      clear hw3 AL AQ l2
      have l2 := CQ.out w3 B3.out
      all_goals go_wp2_with (go_at_call 24; refine (IC.out w3 B3.out).mono ?_; rintro e w4 ⟨mo4, rfl, ar, b4⟩; have A4 := hidi ar; have B4 := hidi b4; clear ar b4 IC)
      all_goals go_ret
      all_goals exact ⟨mo4, rfl, A4.out, B4.out⟩
  · have hlook : ∀ M, (Instr.lookup 69 (.map ko) (.string z) true).run Tryz.prog (w.drewN M) = .ok (.tuple #[.pointer none, .bool false]) (w.drewN M) := fun M => by rw [LK2 M, hkz]; rfl
    clear LK2
    have FIN := hidi (show AtR T (f.s.A ++ z :: rs) (.map none) from by
      refine .inr ⟨rfl, fun g hg e => ?_⟩
      obtain ⟨k', hk', ka', kp⟩ := atk_rest h hf hg e
      exact no _ ka')
    unfold ptr at *
    clear IH h hf R hN okL hl oz b1 b2 b3 fd hko hn hcap hgl hkz no
    go_enter Tryz.func24, Tryz.ntmps24
    go_wp2_with fail
    go_quiet (fail)
    obtain ⟨w1, hw1⟩ : ∃ w1, w1 = w.drewN nq := ⟨_, rfl⟩
    have B1 : Hid (Below w.heap.size w w1) := by show Below _ _ _; rw [hw1]; exact below_drewN (Below.refl _ _)
    rw [← hw1]
    clear hw1 hlook c3 hc0
    go_wp2_with fail
    go_quiet (fail)
    go_wp2_with fail
    all_goals go_ret
    all_goals exact ⟨none, rfl, FIN.out, below_drewN B1.out⟩
theorem at_any (tb m r : Nat) (nf nn : Int) (T : List Fn) : ∀ N, AtOk tb m r nf nn T N
  | 0 => fun w f v L hL h hf R okL hl => by
    obtain rfl : L = [] := List.length_eq_zero_iff.1 (by omega)
    exact at_zero h hf R
  | N + 1 => fun w f v L hL h hf R okL hl => by
    cases L with
    | nil => exact at_zero h hf R
    | cons z rs => exact at_cons (at_any tb m r nf nn T N) h hf R (by simp at hL; omega) okL hl
end Go.Proofs.YtepjcfhbbcaldaaGreat.Li
