import Derived.Test.YtglnldopnoafoaaWg
import Derived.Test.YtglnldopnoafoaaShelg
namespace Go.Proofs.Ytglnldopnoafoaa
open Go Go.RowKit
set_option linter.unusedSimpArgs false
set_option linter.unusedVariables false

/-- A row that is one's own, its cells written anew: what lay below lies as it lay. -/
theorem below_put {B : Nat} {w : World} {g : Nat} (hg : B ≤ g) (q : Nat) (d : Array (List UInt8)) : Below B w (Sort.putRow Proofs.encStr (Sort.ahead w q) g 0 d) := by
  refine ⟨rfl, rfl, rfl, by simp, fun k hk => ?_⟩
  have : k ≠ g := by omega
  simp [Sort.putRow, Sort.mapBlock]
  rw [Array.getElem?_modify]
  simp [this.symm]
theorem holds_own {w : World} {B g n cap : Nat} {xs : List Bs} (h : w.ownsRow B 9 1 (.slice (some ⟨g, 0, none⟩) n cap) n ((xs.map mkB).map Value.string)) : Sort.Holds Proofs.encStr w g 0 xs.toArray := by
  intro j hj
  have hj' : j < xs.length := by simpa using hj
  have hc := h.cells (g := g) rfl j (Value.string (mkB xs[j])) (by simp [hj'])
  refine ⟨?_, h.frozenAt (0 + j)⟩
  have e : ((⟨g, 0, none⟩ : Addr).add j) = ⟨g, 0 + j, none⟩ := by
    cases j with
    | zero => rfl
    | succ j => simp [Addr.add]
  rw [← e, hc]
  simp [hj', mkB]
set_option maxRecDepth 100000 in
set_option maxHeartbeats 1000000 in
theorem turned_any (t : List Bs) (v : Value) (B : Nat) (w : World) (hB : B ≤ w.heap.size) (h : w.ownsRow B 9 1 v t.length ((t.reverse.map mkB).map Value.string)) (hne : t ≠ []) (hl : t.length ≤ 1000000) (hj : (joinL t).length ≤ 1000000) : Calls Try.prog 20 #[v] w fun e w' => e = .returned (.string (mkB (joinL t))) ∧ Below B w w' := by
  have ho := h
  obtain ⟨g, cap, hg⟩ : ∃ g cap, v = .slice (some ⟨g, 0, none⟩) t.length cap := by
    cases t with
    | nil => exact absurd rfl hne
    | cons a b => exact ownsRow_succ (k := b.length) (by simpa using h)
  subst hg
  have hlt := h.lt g rfl
  have hH := holds_own h
  have hR := Try.slices_Reverse_string g 0 cap t.reverse w hH (by simp; omega)
  simp only [List.length_reverse, List.reverse_reverse] at hR
  have HR : Hid (Calls Try.prog 47 #[.slice (some ⟨g, 0, none⟩) t.length cap] w fun e w' => e = .returned (.tuple #[]) ∧ ∃ n, w' = Sort.putRow Proofs.encStr (Sort.ahead w n) g 0 t.toArray) := hR
  have HN : Hid (∀ q, Below B w (Sort.putRow Proofs.encStr (Sort.ahead w q) g 0 t.toArray) ∧ Row (Sort.putRow Proofs.encStr (Sort.ahead w q) g 0 t.toArray) (.slice (some ⟨g, 0, none⟩) t.length cap) (t.map mkB)) := by
    intro q
    refine ⟨below_put hlt.1 q _, ?_⟩
    have hcap : t.length ≤ cap := by
      rcases h.2 with ⟨e, _⟩ | ⟨g', cap', cur, e, _, _, hc, _⟩
      · cases e
      · simp only [Value.slice.injEq] at e
        rw [e.2.2]; exact hc
    refine ⟨_, _, _, rfl, by simp, hcap, fun _ => ⟨g, 0, rfl, by simp; exact hlt.2, fun k x hk => ?_⟩⟩
    have hk' : k < t.length := by
      have := (List.getElem?_eq_some_iff.1 hk).1
      simpa using this
    have hc := Sort.cell?_putRow Proofs.encStr (Sort.ahead w q) g 0 t.reverse.toArray t.toArray (Sort.holds_ahead _ _ _ _ _ _ hH) (by simp) k (by simpa using hk')
    rw [hc]
    simp only [List.getElem?_map, List.getElem?_eq_getElem hk', Option.map_some, Option.some.injEq] at hk
    subst hk
    simp [hk', mkB]
  have HJ : Hid (t.map mkB ≠ [] ∧ (t.map mkB).length ≤ 1000001 ∧ (joinL ((t.map mkB).map unB)).length ≤ 1000001 ∧ (t.map mkB).map unB = t) := by
    have e : (t.map mkB).map unB = t := by
      rw [List.map_map]
      conv => rhs; rw [← List.map_id t]
      exact List.map_congr_left fun x _ => un_mk x
    refine ⟨by simpa using hne, by simp; omega, by rw [e]; omega, e⟩
  have HB : Hid (B ≤ w.heap.size) := hB
  clear h ho hlt hH hR hne hl hj hB
  go_enter Try.func20, Try.ntmps20
  go_wp2_with fail
  go_must (go_at_call 47)
  refine HR.out.mono ?_
  rintro e w1 ⟨rfl, q, hw⟩
  have B1 : Hid (Below B w w1) := by rw [hw]; exact (HN.out q).1
  have R1 : Hid (Row w1 (.slice (some ⟨g, 0, none⟩) t.length cap) (t.map mkB)) := by rw [hw]; exact (HN.out q).2
  clear hw
  go_wp2_with fail
  go_must (go_at_call 48)
  refine (join_any (t.map mkB) _ w1 R1.out HJ.out.1 HJ.out.2.1 HJ.out.2.2.1).mono ?_
  rintro e w2 ⟨rfl, hb⟩
  have B2 : Hid (Below B w w2) := B1.out.trans (hb.mono (Nat.le_trans HB.out B1.out.size))
  clear hb
  rw [HJ.out.2.2.2]
  go_wp2_with fail
  go_ret
  exact ⟨rfl, B2.out⟩
/-- What outside tells, of rows. -/
abbrev OutOk (fs gs : List ByteArray) : Prop := ∀ (vf vg : Value) (w : World), Row w vf fs → Row w vg gs → Calls Try.prog 30 #[vf, vg] w fun e w' => ∃ v, e = .returned (.tuple #[v, .bool (outL (fs.map unB) (gs.map unB)).isSome]) ∧ Told w' w.heap.size v (outL (fs.map unB) (gs.map unB)) ∧ Below w.heap.size w w'
set_option maxRecDepth 100000 in
set_option maxHeartbeats 1000000 in
theorem out_nil (gs : List ByteArray) : OutOk [] gs := by
  intro vf vg w Rf Rg
  have e0 : outL (([] : List ByteArray).map unB) (gs.map unB) = none := rfl
  rw [e0]
  obtain ⟨a, cap, rfl⟩ := Rf.nil
  have B0 : Hid (Below w.heap.size w w) := Below.refl _ _
  clear Rf Rg e0
  go_enter Try.func30, Try.ntmps30
  go_wp2_with fail
  go_ret2
  exact ⟨_, rfl, told_none _ _ _, B0.out⟩
set_option maxRecDepth 100000 in
set_option maxHeartbeats 1000000 in
theorem out_free (x : ByteArray) (r : List ByteArray) (hl : (x :: r).length ≤ 1000000) : OutOk (x :: r) [] := by
  intro vf vg w Rf Rg
  have e0 : outL ((x :: r).map unB) (([] : List ByteArray).map unB) = some (((x :: r).map unB).map fillB) := by simp [outL]
  rw [e0]
  obtain ⟨a2, cap2, rfl⟩ := Rg.nil
  have HF : Hid (Calls Try.prog 52 #[vf] w fun e w' => ∃ v, e = .returned v ∧ Told w' w.heap.size v (some (((x :: r).map unB).map fillB)) ∧ Below w.heap.size w w') := filled_told (x :: r) vf w Rf hl
  obtain ⟨g, o, k, cap, rfl, hn, hc, hg, c0, hk⟩ := Rf.cons
  have q0 : ((k : Int) == 0) = false := by rw [beq_eq_false_iff_ne]; omega
  obtain ⟨T, hT⟩ : ∃ T, ((x :: r).map unB).map fillB = T := ⟨_, rfl⟩
  rw [hT] at HF ⊢
  clear Rf Rg e0 hk hg hc hn hT hl
  go_enter Try.func30, Try.ntmps30
  go_wp2_with fail
  go_must (go_at_call 52)
  refine HF.out.mono ?_
  rintro e w1 ⟨v, rfl, ht, hb⟩
  have HT : Hid (Told w1 w.heap.size v (some T)) := ht
  have HB : Hid (Below w.heap.size w w1) := hb
  clear ht hb
  go_wp2_with fail
  go_ret2
  exact ⟨_, rfl, HT.out, HB.out⟩
set_option maxRecDepth 100000 in
set_option maxHeartbeats 1000000 in
theorem out_cons (x y : ByteArray) (r s : List ByteArray) (hl : (x :: r).length ≤ 1000000) : OutOk (x :: r) (y :: s) := by
  intro vf vg w Rf Rg
  obtain ⟨b, hb⟩ : ∃ b, hidL ((y :: s).map unB) ((x :: r).map unB) = b := ⟨_, rfl⟩
  have e0 : outL ((x :: r).map unB) ((y :: s).map unB) = if b = true then some (((x :: r).map unB).map fillB) else bey ((x :: r).map unB) ((y :: s).map unB) := by
    unfold outL; rw [hb]; simp
  rw [e0]
  have HH : Hid (Calls Try.prog 18 #[vg, vf] w fun e w' => e = .returned (.bool b) ∧ w' = w) := by have := hides_any y x s r vg vf w Rg Rf; rw [hb] at this; exact this
  have HF : Hid (Calls Try.prog 52 #[vf] w fun e w' => ∃ v, e = .returned v ∧ Told w' w.heap.size v (some (((x :: r).map unB).map fillB)) ∧ Below w.heap.size w w') := filled_told (x :: r) vf w Rf hl
  have HG : Hid (Calls Try.prog 53 #[vf, vg] w fun e w' => ∃ v, e = .returned (.tuple #[v, .bool (bey ((x :: r).map unB) ((y :: s).map unB)).isSome]) ∧ Told w' w.heap.size v (bey ((x :: r).map unB) ((y :: s).map unB)) ∧ Below w.heap.size w w') := bey_any (x :: r) (y :: s) hl vf vg w Rf Rg
  obtain ⟨g, o, k, cap, rfl, hn, hc, hg, c0, hk⟩ := Rf.cons
  obtain ⟨g2, o2, k2, cap2, rfl, hn2, hc2, hg2, c2, hk2⟩ := Rg.cons
  have q0 : ((k : Int) == 0) = false := by rw [beq_eq_false_iff_ne]; omega
  have q2 : ((k2 : Int) == 0) = false := by rw [beq_eq_false_iff_ne]; omega
  obtain ⟨T, hT⟩ : ∃ T, ((x :: r).map unB).map fillB = T := ⟨_, rfl⟩
  obtain ⟨U, hU⟩ : ∃ U, bey ((x :: r).map unB) ((y :: s).map unB) = U := ⟨_, rfl⟩
  rw [hT] at HF ⊢
  rw [hU] at HG ⊢
  clear Rf Rg e0 hk hg hc hn hk2 hg2 hc2 hn2 hT hU hl hb
  go_enter Try.func30, Try.ntmps30
  go_wp2_with fail
  go_must (go_at_call 18)
  refine HH.out.mono ?_
  rintro e w1 ⟨rfl, hee⟩
  obtain rfl := hee.symm
  clear hee
  cases b with
  | true =>
    go_wp2_with fail
    go_must (go_at_call 52)
    refine HF.out.mono ?_
    rintro e w1 ⟨v, rfl, ht, hb⟩
    have HT : Hid (Told w1 w.heap.size v (some T)) := ht
    have HB : Hid (Below w.heap.size w w1) := hb
    clear ht hb
    go_wp2_with fail
    go_ret2
    exact ⟨_, rfl, HT.out, HB.out⟩
  | false =>
    go_wp2_with fail
    go_must (go_at_call 53)
    refine HG.out.mono ?_
    rintro e w1 ⟨v, rfl, ht, hb⟩
    have HT : Hid (Told w1 w.heap.size v U) := ht
    have HB : Hid (Below w.heap.size w w1) := hb
    clear ht hb
    go_wp2_with fail
    go_ret2
    exact ⟨_, rfl, HT.out, HB.out⟩
theorem outside_any (fs gs : List ByteArray) (hl : fs.length ≤ 1000000) : OutOk fs gs := by
  cases fs with
  | nil => exact out_nil gs
  | cons x r =>
    cases gs with
    | nil => exact out_free x r hl
    | cons y s => exact out_cons x y r s hl
set_option maxRecDepth 100000 in
set_option maxHeartbeats 1000000 in
theorem within_row (fs gs : List ByteArray) (hl : fs.length ≤ 1000000) (vf vg : Value) (w : World) (Rf : Row w vf fs) (Rg : Row w vg gs) : Calls Try.prog 32 #[vf, vg] w fun e w' => e = .returned (.bool (outL (fs.map unB) (gs.map unB)).isNone) ∧ Below w.heap.size w w' := by
  have HO : Hid (Calls Try.prog 30 #[vf, vg] w fun e w' => ∃ v, e = .returned (.tuple #[v, .bool (outL (fs.map unB) (gs.map unB)).isSome]) ∧ Told w' w.heap.size v (outL (fs.map unB) (gs.map unB)) ∧ Below w.heap.size w w') := outside_any fs gs hl vf vg w Rf Rg
  obtain ⟨U, hU⟩ : ∃ U, outL (fs.map unB) (gs.map unB) = U := ⟨_, rfl⟩
  rw [hU] at HO ⊢
  obtain ⟨a, k, cap, rfl, -⟩ := Rf
  obtain ⟨a2, k2, cap2, rfl, -⟩ := Rg
  clear hU hl
  go_enter Try.func32, Try.ntmps32
  go_wp2_with fail
  go_must (go_at_call 30)
  refine HO.out.mono ?_
  rintro e w1 ⟨v, rfl, ht, hb⟩
  have HB : Hid (Below w.heap.size w w1) := hb
  clear ht hb
  cases U <;> (go_wp2_with fail; go_ret; exact ⟨rfl, HB.out⟩)
end Go.Proofs.Ytglnldopnoafoaa
