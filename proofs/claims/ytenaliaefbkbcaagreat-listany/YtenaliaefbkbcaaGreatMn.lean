import Derived.Test.YtenaliaefbkbcaaGreatMm
import Derived.Laws.IdiomCopy
namespace Go.Proofs.YtenaliaefbkbcaaGreat.Li
open Go Go.RowKit Go.Shelf
set_option linter.unusedSimpArgs false
set_option linter.unusedVariables false
/-! ### clear of a row's end -/
theorem own_above {w : World} {B e g k c o : Nat} {xs : List Value} (h : w.ownsRow B e 2 (.slice (some ⟨g, 0, none⟩) k c) k xs) (ho : k * 2 ≤ o) (u : Value) : (w.setCell ⟨g, o, none⟩ u).ownsRow B e 2 (.slice (some ⟨g, 0, none⟩) k c) k xs := by
  refine ⟨h.1, ?_⟩
  rcases h.2 with ⟨h1, h2⟩ | ⟨g', cap, cur, h1, h2, h3, h4, h5, h6, h7⟩
  · cases h1
  · simp only [Value.slice.injEq, Option.some.injEq, Addr.mk.injEq] at h1
    obtain ⟨⟨rfl, -, -⟩, -, rfl⟩ := h1
    refine .inr ⟨g, c, cur.setIfInBounds o u, rfl, h2, heap_set h3 u, h4, h5, by simpa using h6, ?_⟩
    rw [Array.toList_setIfInBounds, List.take_set, List.set_eq_of_length_le (by rw [List.length_take]; omega)]
    exact h7
theorem own_aboves {B e g k c : Nat} {xs : List Value} : ∀ (Z : List Value) (o : Nat) (w : World), w.ownsRow B e 2 (.slice (some ⟨g, 0, none⟩) k c) k xs → k * 2 ≤ o → (w.setCells g o Z).ownsRow B e 2 (.slice (some ⟨g, 0, none⟩) k c) k xs
  | [], o, w, h, _ => h
  | z :: r, o, w, h, ho => own_aboves r (o + 1) _ (own_above h ho z) (by omega)
theorem ch_setCells (g : Nat) : ∀ (Z : List Value) (o : Nat) (w : World), Ch (fun j => j = g) w (w.setCells g o Z)
  | [], o, w => Ch.refl _ _
  | z :: r, o, w => (ch_set g o z).then (ch_setCells g r (o + 1) _)
theorem zv44 (w : World) : (zeroValue 44).run Tryz.prog w = .ok (.agg #[.string ⟨#[]⟩, .int .i64 0]) w := (zero_of_info (t := 44) (n := 2) (by kernel_rfl)).1 w
theorem run_clear44 (w : World) (ty : TypeId) (g o n c : Nat) (hn : 0 < n) (hc : ∀ j, j < n * 2 → (w.cell? ⟨g, o + j, none⟩).isSome = true) (hf : ∀ j, j < n * 2 → w.frozen? ⟨g, o + j, none⟩ = false) :
    ∃ Z, (Builtin.clear_ #[41] ty #[.slice (some ⟨g, o, none⟩) n c]).run Tryz.prog w = .ok (.tuple #[]) (w.setCells g o Z) := by
  refine ⟨(Builtin.zeroCells (Value.agg #[.string ⟨#[]⟩, .int .i64 0]).cells n).toList, ?_⟩
  have hcs : (Value.agg #[.string ⟨#[]⟩, .int .i64 0]).cells = #[.string ⟨#[]⟩, .int .i64 0] := rfl
  have hl : (Builtin.zeroCells (Value.agg #[.string ⟨#[]⟩, .int .i64 0]).cells n).toList.length = n * 2 := by rw [hcs]; simp [Builtin.zeroCells]
  have h1 : ∀ v ∈ (Builtin.zeroCells (Value.agg #[.string ⟨#[]⟩, .int .i64 0]).cells n).toList, v.oneCell' = true := by
    rw [hcs]
    intro v hv
    simp [Builtin.zeroCells] at hv
    obtain ⟨i, hi, rfl⟩ := hv
    rcases Nat.mod_two_eq_zero_or_one i with q | q <;> rw [q] <;> rfl
  have hst := run_storeCells_cells (P := Tryz.prog) g o _ 0 w (by rw [hl]; simpa using hc) (by rw [hl]; simpa using hf) h1
  simp only [Nat.add_zero] at hst
  obtain ⟨m, rfl⟩ : ∃ m, n = m + 1 := ⟨n - 1, by omega⟩
  simp [Builtin.clear_, run_underlying Tryz.underlying41, zv44, hst]
/-! ### CompactFunc -/
theorem own_cells {w : World} {B e n g c : Nat} {xs : List Value} (h : w.ownsRow B e 2 (.slice (some ⟨g, 0, none⟩) n c) n xs) : ∀ (j : Nat) (u : Value), xs[j]? = some u → w.cell? ((⟨g, 0, none⟩ : Addr).add j) = some u := fun j u hu => by
  rcases h.2 with ⟨h1, _⟩ | ⟨g', cap, cur, h1, h2, h3, h4, h5, h6, h7⟩
  · cases h1
  · simp only [Value.slice.injEq, Option.some.injEq, Addr.mk.injEq] at h1
    obtain ⟨⟨rfl, -, -⟩, -, rfl⟩ := h1
    rw [addr_at]
    rw [← h7, List.getElem?_take] at hu
    split at hu
    · simp [World.cell?, h3]
      simpa using hu
    · cases hu
theorem ecell {w : World} {B : Nat} {v : Value} {L : List En} (h : w.ownsRow B 44 2 v L.length (arow L)) {j : Nat} (hj : j < L.length) : ∃ g c, v = .slice (some ⟨g, 0, none⟩) L.length c ∧ L.length ≤ c ∧ ∀ i x, L[i]? = some x → w.cell? ⟨g, i * 2, none⟩ = some (.string x.1) ∧ w.cell? ⟨g, i * 2 + 1, none⟩ = some (.int .i64 x.2) := by
  have hl : L.length = (L.map epv).length := by simp
  rw [arow_prow, hl] at h
  obtain ⟨g, c, h1, h2, h3⟩ := prow_cell h (j := j) (by simpa using hj)
  refine ⟨g, c, by rw [h1, hl], by rw [hl]; exact h2, fun i x hx => ?_⟩
  have hi : i < L.length := (List.getElem?_eq_some_iff.1 hx).1
  have := h3 i (by simpa using hi)
  rw [List.getElem?_eq_getElem hi] at hx
  simp only [Option.some.injEq] at hx
  simpa [hx, epv] using this
set_option maxRecDepth 100000 in
set_option maxHeartbeats 4000000 in
theorem compact_walk (xs : List En) (g c : Nat) (w : World) (B : Nat) (ho : w.ownsRow B 44 2 (.slice (some ⟨g, 0, none⟩) xs.length c) xs.length (arow xs)) (hl : xs.length ≤ 1000000) (h2 : 2 ≤ xs.length) :
    Calls Tryz.prog 58 #[.slice (some ⟨g, 0, none⟩) xs.length c, .func (.func 59) #[] #[]] w fun e w' => ∃ v', e = .returned v' ∧ w'.ownsRow B 44 2 v' (cmpct xs).length (arow (cmpct xs)) ∧ Ch (fun j => j = g) w w' := by
  have H := hidi (And.intro ho hl)
  obtain ⟨n, hn⟩ : ∃ n, n = xs.length := ⟨_, rfl⟩
  rw [← hn] at h2 ⊢
  have HN := hidi hn
  have HC : Hid (n ≤ c) := by
    obtain ⟨g', c', e, hle, -⟩ := ecell ho (j := 0) (by omega)
    simp only [Value.slice.injEq, true_and] at e
    show n ≤ c
    rw [hn, e.2]
    exact hle
  have SK := hidi (fun (a b : ByteArray) (p q : Int) (w : World) => sameKey_any a b p q w)
  have hn2 : ¬ (n : Int) < 2 := by omega
  clear ho hl hn
  go_enter Tryz.func58, Tryz.ntmps58
  go_wp2_with fail
  go_loopg [5] n (fun gk s5 wx => ∃ m : Nat, m + gk = n ∧ m + 1 ≤ n ∧ s5 = .int .i64 ((m : Int) + 1) ∧ Hid (cmpct (xs.take (m + 1)) = xs.take (m + 1) ∧ Below w.heap.size w wx))
  case atStart =>
    refine ⟨0, by omega, by omega, rfl, ?_, Below.refl _ _⟩
    cases xs with
    | nil => have := HN.out; simp at this; omega
    | cons x r => rfl
  case round =>
    obtain ⟨m, hk, hmn1, rfl, HI⟩ := hrel
    by_cases hkn : m + 1 < n
    · have hlt : (m : Int) + 1 < (n : Int) := by omega
      have hge : (0 : Int) ≤ (m : Int) + 1 := by omega
      have hge2 : (0 : Int) ≤ (m : Int) := by omega
      have hlt2 : (m : Int) < (n : Int) := by omega
      have hsub : IntKind.i64.wrap ((m : Int) + 1 - 1) = (m : Int) := by rw [IntKind.wrap_i64]; have := H.out.2; have := HN.out; omega
      have hw1 : IntKind.i64.wrap ((m : Int) + 1 + 1) = (m : Int) + 1 + 1 := by rw [IntKind.wrap_i64]; have := H.out.2; have := HN.out; omega
      have htn : ((m : Int) + 1).toNat = m + 1 := by omega
      have hwm : IntKind.i64.wrap (m : Int) = (m : Int) := by rw [IntKind.wrap_i64]; have := H.out.2; have := HN.out; omega
      have hsb : (m : Int) + 1 - 1 = (m : Int) := by omega
      have hng : ¬ (m : Int) < 0 := by omega
      have hcn : ¬ c = m + 1 := by have := HC.out; omega
      obtain ⟨y, hy⟩ : ∃ y, xs[m + 1]? = some y := ⟨_, List.getElem?_eq_getElem (by rw [← HN.out]; exact hkn)⟩
      obtain ⟨z, hz⟩ : ∃ z, xs[m]? = some z := ⟨_, List.getElem?_eq_getElem (by rw [← HN.out]; omega)⟩
      have HY := hidi (cmpct_step (xs := xs) (m := m + 1) (by omega) hy hz)
      have HT : Hid (xs.take (m + 1 + 1) = xs.take (m + 1) ++ [y]) := by show _ = _; rw [List.take_add_one, hy]; rfl
      have HZ := hidi (And.intro hy hz)
      have KB := hidi (fun (w2 : World) (hb : Below w.heap.size w w2) => (show w2.cell? ⟨g, (m + 1) * 2, none⟩ = some (.string y.1) ∧ w2.cell? ⟨g, (m + 1) * 2 + 1, none⟩ = some (.int .i64 y.2) ∧ w2.cell? ⟨g, m * 2, none⟩ = some (.string z.1) ∧ w2.cell? ⟨g, m * 2 + 1, none⟩ = some (.int .i64 z.2) from by
        obtain ⟨g', c', e, -, hc⟩ := ecell (own_below H.out.1 hb) (j := 0) (by have := HN.out; omega)
        simp only [Value.slice.injEq, Option.some.injEq, Addr.mk.injEq, true_and, and_true] at e
        obtain ⟨rfl, -⟩ := e
        exact ⟨(hc _ y HZ.out.1).1, (hc _ y HZ.out.1).2, (hc _ z HZ.out.2).1, (hc _ z HZ.out.2).2⟩))
      obtain ⟨e0, e1, e2, e3⟩ := KB.out wr HI.out.2
      obtain ⟨ya, yq⟩ := y
      obtain ⟨za, zq⟩ := z
      simp only at e0 e1 e2 e3
      clear hy hz
      by_cases hyz : ya = za
      · have SK1 := hidi (fun w => SK.out ya za yq zq w)
        rw [decide_eq_true hyz] at SK1
        have HYZ := hidi hyz
        clear hyz
        go_wp2_with fail
        go_region_held_law (fun w' => w'.cell? ⟨g, (m + 1) * 2, none⟩ = some (.string ya) ∧ w'.cell? ⟨g, (m + 1) * 2 + 1, none⟩ = some (.int .i64 yq) ∧ w'.cell? ⟨g, m * 2, none⟩ = some (.string za) ∧ w'.cell? ⟨g, m * 2 + 1, none⟩ = some (.int .i64 zq)) (first | exact HK2.out | exact ⟨e0, e1, e2, e3⟩ | go_keep) (first
          | (go_at_call 59; refine (SK1.out _).mono ?_; rintro e w2 ⟨rfl, hb⟩; have HB2 := hidi (HI.out.2.trans (((Below.refl wr.heap.size wr).drew.trans hb).mono HI.out.2.size)); have HK2 := hidi (KB.out w2 HB2.out); clear hb))
        go_wp2_with fail
        have ST : Hid (∃ (q k : Nat) (E : List En), q = 0 ∧ k = m + 1 ∧ q + 1 + (m + 1) ≤ n ∧ E.length = n ∧ E.take k = cmpct (xs.take ((m + 1) + q + 1)) ∧ k = (cmpct (xs.take ((m + 1) + q + 1))).length ∧ k ≤ (m + 1) + q ∧ (∀ j, (m + 1) + q ≤ j → E[j]? = xs[j]?) ∧ w2.ownsRow B 44 2 (.slice (some ⟨g, 0, none⟩) E.length c) E.length (arow E) ∧ Ch (fun j => j = g) w w2) := by
          have e1 : cmpct (xs.take ((m + 1) + 0 + 1)) = xs.take (m + 1) := by
            rw [Nat.add_zero, HY.out, tl_eq HYZ.out, List.append_nil]
            exact HI.out.1
          refine ⟨0, (m + 1), xs, rfl, rfl, by omega, HN.out.symm, e1.symm, ?_, by omega, fun _ _ => rfl, own_below H.out.1 HB2.out, Below.ch HB2.out⟩
          rw [e1, List.length_take, ← HN.out]
          omega
        clear hlt hge hge2 hlt2 hsub hw1 htn hwm hsb hng hcn HY HT HZ KB e0 e1 e2 e3 SK1 HYZ HK2 HI hkn hk hmn1
        go_loopg [5, 7] n (fun gk s5 s7 wx => ∃ (q k : Nat) (E : List En), q + gk = n ∧ s5 = .int .i64 (k : Int) ∧ s7 = .int .i64 ((q : Int) + 1) ∧ Hid (q + 1 + (m + 1) ≤ n ∧ E.length = n ∧ E.take k = cmpct (xs.take ((m + 1) + q + 1)) ∧ k = (cmpct (xs.take ((m + 1) + q + 1))).length ∧ k ≤ (m + 1) + q ∧ (∀ j, (m + 1) + q ≤ j → E[j]? = xs[j]?) ∧ wx.ownsRow B 44 2 (.slice (some ⟨g, 0, none⟩) E.length c) E.length (arow E) ∧ Ch (fun j => j = g) w wx))
        case atStart =>
          obtain ⟨q, k, E, hq0, hk0, h1⟩ := ST.out
          subst hq0
          exact ⟨0, k, E, by omega, by rw [hk0]; simp, rfl, h1⟩
        case round =>
          clear ST
          obtain ⟨q, k, E, hq, rfl, rfl, HJ⟩ := hrel
          by_cases hqn : q + 1 + (m + 1) < n
          · have hlt : (q : Int) + 1 < ((n - (m + 1) : Nat) : Int) := by omega
            have hge : (0 : Int) ≤ (q : Int) + 1 := by omega
            have hge2 : (0 : Int) ≤ (q : Int) := by omega
            have hlt2 : (q : Int) < ((n - (m + 1) : Nat) : Int) := by omega
            have hnb := H.out.2
            rw [← HN.out] at hnb
            have hsub : IntKind.i64.wrap ((q : Int) + 1 - 1) = (q : Int) := by rw [IntKind.wrap_i64]; omega
            have hw1 : IntKind.i64.wrap ((q : Int) + 1 + 1) = (q : Int) + 1 + 1 := by rw [IntKind.wrap_i64]; omega
            have hwm : IntKind.i64.wrap (q : Int) = (q : Int) := by rw [IntKind.wrap_i64]; omega
            have hsb : (q : Int) + 1 - 1 = (q : Int) := by omega
            have htn : ((q : Int) + 1).toNat = q + 1 := by omega
            have hng : ¬ (q : Int) < 0 := by omega
            have hkn2 : k < n := by have := HJ.out.2.2.2.2.1; omega
            have hk0 : (0 : Int) ≤ (k : Int) := by omega
            have hkn3 : (k : Int) < (n : Int) := by omega
            have hwk : IntKind.i64.wrap ((k : Int) + 1) = (k : Int) + 1 := by rw [IntKind.wrap_i64]; omega
            obtain ⟨y, hy⟩ : ∃ y, xs[m + 1 + q + 1]? = some y := ⟨_, List.getElem?_eq_getElem (by rw [← HN.out]; omega)⟩
            obtain ⟨z, hz⟩ : ∃ z, xs[m + 1 + q]? = some z := ⟨_, List.getElem?_eq_getElem (by rw [← HN.out]; omega)⟩
            have HY := hidi (cmpct_step (xs := xs) (m := m + 1 + q + 1) (by omega) hy hz)
            have HEy : Hid (E[m + 1 + q + 1]? = some y ∧ E[m + 1 + q]? = some z) := ⟨(HJ.out.2.2.2.2.2.1 _ (by omega)).trans hy, (HJ.out.2.2.2.2.2.1 _ (by omega)).trans hz⟩
            have HZ := hidi hy
            have KB := hidi (fun (w2 : World) (hb : Below wr.heap.size wr w2) => (show w2.cell? ⟨g, (m + 1) * 2 + (q + 1) * 2, none⟩ = some (.string y.1) ∧ w2.cell? ⟨g, (m + 1) * 2 + (q + 1) * 2 + 1, none⟩ = some (.int .i64 y.2) ∧ w2.cell? ⟨g, (m + 1) * 2 + q * 2, none⟩ = some (.string z.1) ∧ w2.cell? ⟨g, (m + 1) * 2 + q * 2 + 1, none⟩ = some (.int .i64 z.2) from by
              obtain ⟨g', c', e, -, hc⟩ := ecell (own_below HJ.out.2.2.2.2.2.2.1 hb) (j := 0) (by have := HJ.out.2.1; omega)
              simp only [Value.slice.injEq, Option.some.injEq, Addr.mk.injEq, true_and, and_true] at e
              obtain ⟨rfl, -⟩ := e
              have a1 : (m + 1) * 2 + (q + 1) * 2 = (m + 1 + q + 1) * 2 := by omega
              have a2 : (m + 1) * 2 + q * 2 = (m + 1 + q) * 2 := by omega
              rw [a1, a2]
              exact ⟨(hc _ y HEy.out.1).1, (hc _ y HEy.out.1).2, (hc _ z HEy.out.2).1, (hc _ z HEy.out.2).2⟩))
            have KP := hidi (fun (w2 : World) (hb : Below wr.heap.size wr w2) => (show (∃ u u', w2.cell? ⟨g, k * 2, none⟩ = some u ∧ w2.cell? ⟨g, k * 2 + 1, none⟩ = some u') ∧ w2.frozen? ⟨g, k * 2, none⟩ = false ∧ w2.frozen? ⟨g, k * 2 + 1, none⟩ = false ∧ ((w2.setCell ⟨g, k * 2, none⟩ (.string y.1)).setCell ⟨g, k * 2 + 1, none⟩ (.int .i64 y.2)).ownsRow B 44 2 (.slice (some ⟨g, 0, none⟩) (E.set k y).length c) (E.set k y).length (arow (E.set k y)) ∧ Ch (fun j => j = g) w ((w2.setCell ⟨g, k * 2, none⟩ (.string y.1)).setCell ⟨g, k * 2 + 1, none⟩ (.int .i64 y.2)) from by
              have ho := own_below HJ.out.2.2.2.2.2.2.1 hb
              have hEn := HJ.out.2.1
              obtain ⟨g', c', e, -, hc⟩ := ecell ho (j := 0) (by omega)
              simp only [Value.slice.injEq, Option.some.injEq, Addr.mk.injEq, true_and, and_true] at e
              obtain ⟨rfl, -⟩ := e
              obtain ⟨x, hx⟩ : ∃ x, E[k]? = some x := ⟨_, List.getElem?_eq_getElem (by omega)⟩
              obtain ⟨cu, hcu⟩ := own_lt ho (g := g) rfl
              refine ⟨⟨_, _, (hc k x hx).1, (hc k x hx).2⟩, box_frozen hcu _, box_frozen hcu _, ?_, ((HJ.out.2.2.2.2.2.2.2.then (Below.ch hb)).then (ch_set g _ _)).then (ch_set g _ _)⟩
              have hl : E.length = (E.map epv).length := by simp
              rw [arow_prow, hl] at ho
              have := own_put ho (i := k) (by rw [← hl]; omega) (epv y)
              rw [List.length_set, arow_prow, List.map_set, hl]
              exact this))
            obtain ⟨e0, e1, e2, e3⟩ := KB.out wr (Below.refl _ _)
            obtain ⟨ya, yq⟩ := y
            obtain ⟨za, zq⟩ := z
            simp only at e0 e1 e2 e3
            clear hy hz
            by_cases hyz : ya = za
            · have SK1 := hidi (fun w => SK.out ya za yq zq w)
              rw [decide_eq_true hyz] at SK1
              have HYZ := hidi hyz
              clear hyz
              go_wp2_with fail
              go_region_held_law (fun w' => w'.cell? ⟨g, (m + 1) * 2 + (q + 1) * 2, none⟩ = some (.string ya) ∧ w'.cell? ⟨g, (m + 1) * 2 + (q + 1) * 2 + 1, none⟩ = some (.int .i64 yq) ∧ w'.cell? ⟨g, (m + 1) * 2 + q * 2, none⟩ = some (.string za) ∧ w'.cell? ⟨g, (m + 1) * 2 + q * 2 + 1, none⟩ = some (.int .i64 zq)) (first | exact HK2.out | exact ⟨e0, e1, e2, e3⟩ | go_keep) (first
                | (go_at_call 59; refine (SK1.out _).mono ?_; rintro e w3 ⟨rfl, hb⟩; have HB3 := hidi ((Below.refl wr.heap.size wr).drew.trans hb); have HK2 := hidi (KB.out w3 HB3.out); clear hb))
              go_wp2_with fail
              go_roundg (n - (q + 1))
              case measure => omega
              case rel =>
                refine ⟨q + 1, k, E, by omega, rfl, by simp, by omega, HJ.out.2.1, ?_, ?_, by have := HJ.out.2.2.2.2.1; omega, fun j hj => HJ.out.2.2.2.2.2.1 j (by omega), own_below HJ.out.2.2.2.2.2.2.1 HB3.out, HJ.out.2.2.2.2.2.2.2.then (Below.ch HB3.out)⟩
                · rw [show m + 1 + (q + 1) + 1 = m + 1 + q + 1 + 1 by omega, HY.out, tl_eq HYZ.out, List.append_nil]
                  exact HJ.out.2.2.1
                · rw [show m + 1 + (q + 1) + 1 = m + 1 + q + 1 + 1 by omega, HY.out, tl_eq HYZ.out, List.append_nil]
                  exact HJ.out.2.2.2.1
            · have SK1 := hidi (fun w => SK.out ya za yq zq w)
              rw [decide_eq_false hyz] at SK1
              have HYZ := hidi hyz
              clear hyz
              go_wp2_with fail
              go_region_held_law (fun w' => w'.cell? ⟨g, (m + 1) * 2 + (q + 1) * 2, none⟩ = some (.string ya) ∧ w'.cell? ⟨g, (m + 1) * 2 + (q + 1) * 2 + 1, none⟩ = some (.int .i64 yq) ∧ w'.cell? ⟨g, (m + 1) * 2 + q * 2, none⟩ = some (.string za) ∧ w'.cell? ⟨g, (m + 1) * 2 + q * 2 + 1, none⟩ = some (.int .i64 zq)) (first | exact HK2.out | exact ⟨e0, e1, e2, e3⟩ | go_keep) (first
                | (go_at_call 59; refine (SK1.out _).mono ?_; rintro e w3 ⟨rfl, hb⟩; have HB3 := hidi ((Below.refl wr.heap.size wr).drew.trans hb); have HK2 := hidi (KB.out w3 HB3.out); clear hb))
              clear e0 e1 e2 e3
              obtain ⟨e0, e1, e2, e3⟩ := HK2.out
              obtain ⟨⟨u, u', d0, d1⟩, f0, f1, d2, d3⟩ := KP.out w3 HB3.out
              have HD := hidi (And.intro d2 d3)
              clear d2 d3
              go_wp2_with fail
              go_roundg (n - (q + 1))
              case measure => omega
              case rel =>
                have hkE : k < E.length := by rw [HJ.out.2.1]; exact hkn2
                refine ⟨q + 1, k + 1, E.set k (ya, yq), by omega, by simp, by simp, by omega, by rw [List.length_set]; exact HJ.out.2.1, ?_, ?_, by have := HJ.out.2.2.2.2.1; omega, fun j hj => ?_, HD.out.1, HD.out.2⟩
                · rw [show m + 1 + (q + 1) + 1 = m + 1 + q + 1 + 1 by omega, HY.out, tl_ne HYZ.out, ← HJ.out.2.2.1, List.take_add_one, List.getElem?_set_self hkE, List.take_set, List.set_eq_of_length_le (by rw [List.length_take]; omega)]
                  rfl
                · rw [show m + 1 + (q + 1) + 1 = m + 1 + q + 1 + 1 by omega, HY.out, tl_ne HYZ.out, List.length_append, ← HJ.out.2.2.2.1]
                  rfl
                · have := HJ.out.2.2.2.2.1
                  rw [List.getElem?_set_ne (by omega)]
                  exact HJ.out.2.2.2.2.2.1 j (by omega)
          · have hend : q + 1 + (m + 1) = n := by have := HJ.out.1; omega
            have hlt : ¬ (q : Int) + 1 < ((n - (m + 1) : Nat) : Int) := by omega
            have hkn2 : k < n := by have := HJ.out.2.2.2.2.1; omega
            have hkc : k < c := by have := HC.out; omega
            have hck : ¬ c = k := by omega
            have hkl : (k : Int) ≤ (n : Int) := by omega
            have hk0 : (0 : Int) ≤ (k : Int) := by omega
            have hkc2 : (k : Int) ≤ (c : Int) := by omega
            have hEn := HJ.out.2.1
            have hrow : wr.ownsRow B 44 2 (.slice (some ⟨g, 0, none⟩) n c) n (prow (E.map epv)) := by
              have := HJ.out.2.2.2.2.2.2.1
              rw [hEn, arow_prow] at this
              exact this
            have hE : ∃ v, ∀ j, j < n * 2 → ∃ u, wr.cell? ⟨g, j, none⟩ = some u ∧ v = v := ⟨(), fun j hj => by
              have := own_cells hrow j ((prow (E.map epv))[j]'(by rw [prow_len, List.length_map, hEn]; exact hj)) (List.getElem?_eq_getElem _)
              rw [addr_at] at this
              exact ⟨_, this, rfl⟩⟩
            obtain ⟨cu, hcu⟩ := own_lt hrow (g := g) rfl
            obtain ⟨Z, hclr⟩ := run_clear44 wr 0 g (k * 2) (n - k) (c - k) (by omega) (fun j hj => by
              obtain ⟨_, h⟩ := hE
              obtain ⟨u, h1, -⟩ := h (k * 2 + j) (by omega)
              rw [h1]
              rfl) (fun j hj => box_frozen hcu _)
            have HF : Hid ((wr.setCells g (k * 2) Z).ownsRow B 44 2 (.slice (some ⟨g, 0, none⟩) k c) k (arow (cmpct xs)) ∧ k = (cmpct xs).length ∧ Ch (fun j => j = g) w (wr.setCells g (k * 2) Z)) := by
              have ht : xs.take (m + 1 + q + 1) = xs := by rw [show m + 1 + q + 1 = xs.length by rw [← HN.out]; omega]; exact List.take_length
              have h3 := HJ.out.2.2.1
              have h4 := HJ.out.2.2.2.1
              rw [ht] at h3 h4
              refine ⟨own_aboves Z (k * 2) wr ?_ (Nat.le_refl _), h4, HJ.out.2.2.2.2.2.2.2.then (ch_setCells g Z (k * 2) wr)⟩
              have := own_take hrow (k := k) (by omega)
              rw [← List.map_take, h3, ← arow_prow] at this
              exact this
            clear hE hcu hrow
            go_wp2_with fail
            go_ret
            refine ⟨_, rfl, ?_, HF.out.2.2⟩
            rw [← HF.out.2.1]
            exact HF.out.1
      · have SK1 := hidi (fun w => SK.out ya za yq zq w)
        rw [decide_eq_false hyz] at SK1
        have HYZ := hidi hyz
        clear hyz
        go_wp2_with fail
        go_region_held_law (fun w' => w'.cell? ⟨g, (m + 1) * 2, none⟩ = some (.string ya) ∧ w'.cell? ⟨g, (m + 1) * 2 + 1, none⟩ = some (.int .i64 yq) ∧ w'.cell? ⟨g, m * 2, none⟩ = some (.string za) ∧ w'.cell? ⟨g, m * 2 + 1, none⟩ = some (.int .i64 zq)) (first | exact HK2.out | exact ⟨e0, e1, e2, e3⟩ | go_keep) (first
          | (go_at_call 59; refine (SK1.out _).mono ?_; rintro e w2 ⟨rfl, hb⟩; have HB2 := hidi (HI.out.2.trans (((Below.refl wr.heap.size wr).drew.trans hb).mono HI.out.2.size)); have HK2 := hidi (KB.out w2 HB2.out); clear hb))
        go_wp2_with fail
        go_roundg (n - (m + 1))
        case measure => omega
        case rel => exact ⟨m + 1, by omega, by omega, by first | rfl | simp, by rw [HY.out, HT.out, tl_ne HYZ.out, HI.out.1], HB2.out⟩
    · have hlt : ¬ (m : Int) + 1 < (n : Int) := by omega
      have hmn : m + 1 = n := by omega
      go_wp2_with fail
      go_ret
      refine ⟨_, rfl, ?_, Below.ch HI.out.2⟩
      have e : xs.take (m + 1) = xs := by rw [hmn, HN.out]; exact List.take_length
      have := HI.out.1
      rw [e] at this
      rw [this]
      have hh := own_below H.out.1 HI.out.2
      rw [← HN.out] at hh ⊢
      exact hh
theorem compact_any (xs : List En) (v : Value) (w : World) (B : Nat) (ho : w.ownsRow B 44 2 v xs.length (arow xs)) (hl : xs.length ≤ 1000000) :
    Calls Tryz.prog 58 #[v, .func (.func 59) #[] #[]] w fun e w' => ∃ v', e = .returned v' ∧ w'.ownsRow B 44 2 v' (cmpct xs).length (arow (cmpct xs)) ∧ Ch (fun j => v.ownBlock = some j) w w' := by
  by_cases h2 : 2 ≤ xs.length
  · obtain ⟨g, c, rfl, -, -⟩ := ecell ho (j := 0) (by omega)
    refine (compact_walk xs g c w B ho hl h2).mono ?_
    rintro e w' ⟨v', rfl, h3, h4⟩
    exact ⟨v', rfl, h3, h4.mono (fun j _ e => by rw [e]; rfl)⟩
  · obtain ⟨a, c, rfl⟩ := own_sl ho
    have e : cmpct xs = xs := by
      cases xs with
      | nil => rfl
      | cons x r =>
        cases r with
        | nil => rfl
        | cons y r => simp at h2
    rw [e]
    have H := hidi ho
    obtain ⟨n, hn⟩ : ∃ n, n = xs.length := ⟨_, rfl⟩
    rw [← hn] at H ⊢
    have hlt : (n : Int) < 2 := by omega
    clear ho hl h2 e hn
    go_enter Tryz.func58, Tryz.ntmps58
    go_wp2_with fail
    go_ret
    exact ⟨_, rfl, H.out, Ch.refl _ _⟩
end Go.Proofs.YtenaliaefbkbcaaGreat.Li
