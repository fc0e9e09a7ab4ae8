import Derived.Test.YtglnldopnoafoaaGreatDoorTea
import Derived.Test.YtglnldopnoafoaaGreatDoorRTd
namespace Go.Proofs.YtglnldopnoafoaaGreatDoor
open Go Go.RowKit
set_option linter.unusedSimpArgs false
set_option linter.unusedVariables false

theorem run_nil_none {P : Program} {w : World} (t ty e : TypeId) (i : TypeInfo) (ht : P.underlying t = some (.slice e)) (hi : P.info? e = some i) (a : Option Addr) (c : Nat) :
    (Builtin.append_ #[t, t] ty #[.slice none 0 0, .slice a 0 c]).run P w = .ok (.slice none 0 0) w := by
  cases a with
  | none => simp [Builtin.append_, run_underlying ht, sizeOf, typeInfo, hi, Builtin.lenOf, Builtin.firstCells, storeCells]
  | some a =>
    have hf := run_firstCells_some (P := P) w i.size 0 a 0 c [] (by simp) (by intro j v h; simp at h)
    simp [Builtin.append_, run_underlying ht, sizeOf, typeInfo, hi, Builtin.lenOf, hf, storeCells]
/-- What append makes of nothing and a list. -/
theorem nil_run {w : World} (ty : TypeId) (sa : Option Addr) (n c : Nat) (L : List Value) (hc : CL w sa n c L) (h1 : ∀ u ∈ L, u.oneCell' = true) (hn : n ≤ 1000000) :
    ∃ a k w', (Builtin.append_ #[22, 22] ty #[.slice none 0 0, .slice sa n c]).run Tryz.prog w = .ok (.slice a n k) w' ∧ w'.ownsRow w.heap.size 9 1 (.slice a n k) n L ∧ Below w.heap.size w w' := by
  obtain ⟨i0, hi, hz0, hz1, hz2⟩ := info_parts binfo9
  by_cases h0 : n = 0
  · subst h0
    have hL : L = [] := List.eq_nil_of_length_eq_zero hc.2.1
    subst hL
    exact ⟨none, 0, w, run_nil_none 22 ty 9 i0 Tryz.underlying22 hi sa c, World.ownsRow_nil _ _ _ _, Below.refl _ _⟩
  · obtain ⟨g, off, e, hcell⟩ := hc.2.2.resolve_left h0
    subst e
    obtain ⟨v', w', hr, ho, hg, hne, hw⟩ := push_run (P := Tryz.prog) w w.heap.size 22 ty 9 i0 (.string ⟨#[]⟩) 1 16 Tryz.underlying22 hi hz0 hz1 hz2 rfl (by decide) _ 0 [] (World.ownsRow_nil _ _ _ _) ⟨g, off, none⟩ n c L (by omega) (by rw [hc.2.1, Nat.mul_one]) (fun j u hu => by
      have hj : j < n := by have := (List.getElem?_eq_some_iff.1 hu).1; rw [hc.2.1] at this; exact this
      rw [plain_add, hcell j hj, hu]) h1 (by unfold maxLen; omega) (by omega) (Nat.le_refl _)
    rw [Nat.zero_add, List.nil_append] at ho
    have hb := (Below.refl w.heap.size w).grown hg (Nat.le_refl _) (fun q hq => by simp [Value.ownBlock] at hq)
    rcases ho.2 with ⟨q, _⟩ | ⟨g', cap, cur, q, _⟩
    · exact absurd q (by intro q; subst q; have := ho.1; have h2 := hc.2.1; omega)
    · subst q
      exact ⟨_, _, w', hr, ho, hb⟩
theorem wpList_nil {w : World} {ops : Array Oper} {rest : List Oper} {o : Oper} {a : Act} {Q : Exit → Act → World → Prop} (hgd : o.guard = none) (s x : Operand) (ho : o.op = .call { callee := .builtin .append, args := #[s, x], argTypes := #[22, 22] })
    (hs : a.eval s = .slice none 0 0) (sa : Option Addr) (n c : Nat) (hx : a.eval x = .slice sa n c) {R : Option Addr → Nat → World → Prop} (hr : ∃ a' k' w', (Builtin.append_ #[22, 22] o.type #[.slice none 0 0, .slice sa n c]).run Tryz.prog w = .ok (.slice a' n k') w' ∧ R a' k' w')
    (k : ∀ a' k' w', R a' k' w' → wpList Tryz.prog ops Q rest (a.put o.dst (.slice a' n k')) w') : wpList Tryz.prog ops Q (o :: rest) a w := by
  refine wpList_plain hgd fun K hK => ?_
  obtain ⟨a', k', w', hr, h2⟩ := hr
  unfold Oper.wp execOp
  simp only [ho, resolve, invoke, builtin, Sem.run_bind, Sem.run_pure, Result.andThen_ok, List.map_toArray, List.map_cons, List.map_nil, hs, hx, hr]
  exact hK _ _ (k a' k' w' h2)
end Go.Proofs.YtglnldopnoafoaaGreatDoor
namespace Go.Proofs.YtglnldopnoafoaaGreatDoor
open Go Go.RowKit
set_option linter.unusedSimpArgs false
set_option linter.unusedVariables false

/-! ### CoverLeast, walked over contracts -/
set_option maxRecDepth 100000 in
set_option maxHeartbeats 4000000 in
theorem cleast_walk {w : World} {al : Option Addr} {n cap : Nat} (Po : Ending → World → Prop) {K1 K2 : Nat → World → Prop} {K3 : Bool → World → Prop} (St : Nat → Nat → Nat → World → Prop) (S1 S5 : Nat → Nat → Nat → Option Addr → Nat → World → Prop) (S2 : Nat → Nat → Nat → Option Addr → Nat → Option Addr → Nat → Nat → World → Prop) (S4 : Nat → Nat → Nat → Option Addr → Nat → Option Addr → Nat → Nat → Value → World → Prop) (S6 : Nat → Nat → Nat → Option Addr → Nat → Nat → World → Prop)
    (h1 : Calls Tryz.prog 4 #[.int .i64 20000] w fun r w' => ∃ c, r = .returned (.pointer (some ⟨c, 0, none⟩)) ∧ K1 c w')
    (h2 : ∀ c W, K1 c W → Calls Tryz.prog 5 #[.pointer (some ⟨c, 0, none⟩), .slice al n cap] W fun r w' => r = .returned (.tuple #[]) ∧ K2 c w')
    (h3 : ∀ c W, K2 c W → Calls Tryz.prog 6 #[.pointer (some ⟨c, 0, none⟩)] W fun r w' => ∃ b, r = .returned (.bool b) ∧ K3 b w')
    (h3f : ∀ W, K3 false W → Po (.returned (.bool true)) W)
    (h3t : ∀ W, K3 true W → 40 < n → Po (.returned (.bool true)) W)
    (h4 : ∀ W, K3 true W → ¬ 40 < n → Calls Tryz.prog 7 #[.pointer (some ⟨W.heap.size, 0, none⟩), .slice al n cap] ((W.alloc (.cells Rm.nil28 44)).alloc (.cells bk0 51)) fun r w' => ∃ gi, r = .returned (.slice (some ⟨gi, 0, none⟩) n (n + 40)) ∧ St W.heap.size gi 0 w')
    (h5 : ∀ R gi i W, i < 3 → St R gi i W → ∃ a' k' w', (Builtin.append_ #[22, 22] 22 #[.slice none 0 0, .slice (some ⟨gi, 0, none⟩) n (n + 40)]).run Tryz.prog W = .ok (.slice a' n k') w' ∧ S1 R gi i a' k' w')
    (h6 : ∀ R gi i a k W, S1 R gi i a k W → Calls Tryz.prog 8 #[.slice (some ⟨gi, 0, none⟩) n (n + 40)] W fun r w' => ∃ sa sl sc, r = .returned (.slice sa sl sc) ∧ S2 R gi i a k sa sl sc w')
    (h9 : ∀ R gi i a k sa sl sc W, S2 R gi i a k sa sl sc W → Calls Tryz.prog 10 #[.slice a n k] W fun r w' => ∃ v, r = .returned v ∧ S4 R gi i a k sa sl sc v w')
    (h10 : ∀ R gi i a k sa sl sc v W, S4 R gi i a k sa sl sc v W → Calls Tryz.prog 9 #[.slice sa sl sc, v] W fun r w' => r = .returned (.bool true) ∧ S2 R gi i a k sa sl sc w')
    (h11 : ∀ R gi i a k sa sl sc W, S2 R gi i a k sa sl sc W → Calls Tryz.prog 9 #[.slice (some ⟨gi, 0, none⟩) n (n + 40), .slice a n k] W fun r w' => r = .returned (.bool true) ∧ S2 R gi i a k sa sl sc w')
    (h12 : ∀ R gi i a k sa sl sc W, S2 R gi i a k sa sl sc W → Calls Tryz.prog 11 #[.pointer (some ⟨R + 1, 0, none⟩), .slice sa sl sc, .int .i64 (100 * (i : Int) + 1)] W fun r w' => r = .returned (.tuple #[]) ∧ S5 R gi i a k w')
    (h13 : ∀ R gi i a k W, S5 R gi i a k W → Calls Tryz.prog 12 #[.pointer (some ⟨R + 1, 0, none⟩)] W fun r w' => r = .returned (.bool true) ∧ S6 R gi i a k 0 w')
    (h14 : ∀ R gi a k W, S6 R gi 0 a k 0 W → St R gi 1 W)
    (h15 : ∀ R gi i a k j m W, 0 < i → n = j + 1 + m → S6 R gi i a k j W → ∃ gn on y old, a = some ⟨gn, on, none⟩ ∧ n ≤ k ∧ y.size ≤ 1000000 ∧ W.cell? ⟨gn, on + m, none⟩ = some (.string y) ∧ W.cell? ⟨gi, j, none⟩ = some (.string old) ∧ W.frozen? ⟨gi, j, none⟩ = false ∧ S6 R gi i a k (j + 1) (W.setCell ⟨gi, j, none⟩ (.string (y ++ ⟨#[47, 97]⟩))))
    (h16 : ∀ R gi i a k W, 0 < i → S6 R gi i a k n W → St R gi (i + 1) W)
    (h17 : ∀ R gi W, St R gi 3 W → Calls Tryz.prog 13 #[.pointer (some ⟨R, 0, none⟩)] W fun r w' => r = .returned (.bool true) ∧ Po (.returned (.bool true)) w') :
    Calls Tryz.prog 3 #[.slice al n cap] w Po := by
  have H1 := hidi h1
  have H2 := hidi h2
  have H3 := hidi h3
  have H3f := hidi h3f
  have H3t := hidi h3t
  have H4 := hidi h4
  have H5 := hidi h5
  have H6 := hidi h6
  have H9 := hidi h9
  have H10 := hidi h10
  have H11 := hidi h11
  have H12 := hidi h12
  have H13 := hidi h13
  have H14 := hidi h14
  have H15 := hidi h15
  have H16 := hidi h16
  have H17 := hidi h17
  clear h1 h2 h3 h3f h3t h4 h5 h6 h9 h10 h11 h12 h13 h14 h15 h16 h17
  unfold Rm.nil28 at *
  go_enter Tryz.func3, Tryz.ntmps3
  go_wp2_with fail
  go_must (go_at_call 4)
  refine (H1.out).mono ?_
  rintro r w1 ⟨c, rfl, hk⟩
  have J1 := hidi (H2.out _ _ hk)
  clear hk
  go_wp2_with fail
  go_must (go_at_call 5)
  refine (J1.out).mono ?_
  rintro r w2 ⟨rfl, hk⟩
  have J2 := hidi (H3.out _ _ hk)
  clear hk J1
  go_wp2_with fail
  go_must (go_at_call 6)
  refine (J2.out).mono ?_
  rintro r w3 ⟨ok, rfl, hk⟩
  clear J2
  cases ok with
  | false =>
    have Z := hidi (H3f.out _ hk)
    clear hk
    go_wp2_with fail
    all_goals (try go_ret)
    all_goals exact Z.out
  | true =>
    by_cases h40 : 40 < n
    · have h40' : (40 : Int) < (n : Int) := by omega
      have Z := hidi (H3t.out _ hk h40)
      clear hk
      go_wp2_with fail
      all_goals (try go_ret)
      all_goals exact Z.out
    have h40' : ¬ (40 : Int) < (n : Int) := by omega
    have J3 := hidi (H4.out _ hk h40)
    have HN : Hid (n ≤ 40) := by show _ ≤ _; omega
    clear hk h40
    go_wp2_with fail
    refine wp_build0 rfl ?_
    go_at_K
    go_wp2_with fail
    go_must (go_at_call 7)
    refine (J3.out).mono ?_
    rintro r w4 ⟨gi, rfl, hk⟩
    have J4 := hidi hk
    clear hk J3
    go_wp2_with fail
    go_loopg [7, 8, 9, 10] 3 (fun gk s7 s8 s9 s10 wx => ∃ i : Nat, i + gk = 3 ∧ s7 = .int .i64 i ∧ Hid (St w3.heap.size gi i wx))
    case atStart => exact ⟨0, by omega, rfl, J4.out⟩
    case round =>
      obtain ⟨i, hi, rfl, HH⟩ := hrel
      clear J4
      cases gk with
      | zero =>
        obtain rfl : i = 3 := by omega
        have J5 := hidi (H17.out _ _ _ HH.out)
        clear HH
        go_wp2_with fail
        go_must (go_at_call 13)
        refine (J5.out).mono ?_
        rintro r w5 ⟨rfl, hk⟩
        have Z := hidi hk
        clear hk J5
        go_wp2_with fail
        all_goals (try go_ret)
        all_goals exact Z.out
      | succ gt =>
        have hz : (i : Int) < 3 := by omega
        have hwi : IntKind.i64.wrap ((i : Int) + 1) = (i : Int) + 1 := by rw [IntKind.wrap_i64]; omega
        have hw2 : IntKind.i64.wrap (100 * (i : Int)) = 100 * (i : Int) := by rw [IntKind.wrap_i64]; omega
        have hw3 : IntKind.i64.wrap (100 * (i : Int) + 1) = 100 * (i : Int) + 1 := by rw [IntKind.wrap_i64]; omega
        have J5 := hidi (H5.out _ _ _ _ (by omega) HH.out)
        clear HH
        go_wp2_with (at_builtin; refine wpList_nil rfl (.const (.slice none 0 0)) (.tmp 34) rfl rfl _ _ _ rfl (J5.out) ?_)
        intro a k w5 hk
        have J6 := hidi (H6.out _ _ _ _ _ _ hk)
        clear hk J5
        go_wp2_with fail
        go_must (go_at_call 8)
        refine (J6.out).mono ?_
        rintro r w6 ⟨sa, sl, sc, rfl, hk⟩
        have J9 := hidi (H9.out _ _ _ _ _ _ _ _ _ hk)
        clear hk J6
        go_wp2_with fail
        go_must (go_at_call 10)
        refine (J9.out).mono ?_
        rintro r w9 ⟨v, rfl, hk⟩
        have J10 := hidi (H10.out _ _ _ _ _ _ _ _ _ _ hk)
        clear hk J9
        go_wp2_with fail
        go_must (go_at_call 9)
        refine (J10.out).mono ?_
        rintro r w10 ⟨rfl, hk⟩
        have J11 := hidi (H11.out _ _ _ _ _ _ _ _ _ hk)
        clear hk J10
        go_wp2_with fail
        go_must (go_at_call 9)
        refine (J11.out).mono ?_
        rintro r w11 ⟨rfl, hk⟩
        have J12 := hidi (H12.out _ _ _ _ _ _ _ _ _ hk)
        clear hk J11
        go_wp2_with fail
        go_must (go_at_call 11)
        refine (J12.out).mono ?_
        rintro r w12 ⟨rfl, hk⟩
        have J13 := hidi (H13.out _ _ _ _ _ _ hk)
        clear hk J12
        go_wp2_with fail
        go_must (go_at_call 12)
        refine (J13.out).mono ?_
        rintro r w13 ⟨rfl, hk⟩
        have J14 := hidi hk
        clear hk J13
        by_cases hi0 : i = 0
        · subst hi0
          go_wp2_with fail
          go_loopg [10] 0 (fun gk s10 wx => s10 = .int .i64 0 ∧ Hid (S6 w3.heap.size gi 0 a k 0 wx))
          case atStart => exact ⟨rfl, J14.out⟩
          case round =>
            obtain ⟨rfl, HI⟩ := hrel
            clear J14
            have J15 := hidi (H14.out _ _ _ _ _ HI.out)
            clear HI
            by_cases hn0 : (0 : Int) < (n : Int)
            · go_wp2_with fail
              go_roundg gt
              case measure => omega
              case rel => exact ⟨1, by omega, by simp, J15.out⟩
            · go_wp2_with fail
              go_roundg gt
              case measure => omega
              case rel => exact ⟨1, by omega, by simp, J15.out⟩
        · have hip : (0 : Int) < (i : Int) := by omega
          go_wp2_with fail
          go_loopg [10] n (fun gk s10 wx => ∃ j : Nat, j + gk = n ∧ s10 = .int .i64 j ∧ Hid (S6 w3.heap.size gi i a k j wx))
          case atStart => exact ⟨0, by omega, rfl, J14.out⟩
          case round =>
            obtain ⟨j, hj, rfl, HI⟩ := hrel
            clear J14
            cases gk with
            | zero =>
              obtain rfl : j = n := by omega
              have hjj : ¬ (j : Int) < (j : Int) := by omega
              have J15 := hidi (H16.out _ _ _ _ _ _ (by omega) HI.out)
              clear HI
              go_wp2_with fail
              go_roundg gt
              case measure => omega
              case rel => exact ⟨i + 1, by omega, by simp, J15.out⟩
            | succ m =>
              have hjn : (j : Int) < (n : Int) := by omega
              have hj0 : (0 : Int) ≤ (j : Int) := by omega
              have hmn : (m : Int) < (n : Int) := by omega
              have hm0 : (0 : Int) ≤ (m : Int) := by omega
              have hwj : IntKind.i64.wrap ((j : Int) + 1) = (j : Int) + 1 := by rw [IntKind.wrap_i64]; have := HN.out; omega
              have e1 : IntKind.i64.wrap ((n : Int) - 1) = (n : Int) - 1 := by rw [IntKind.wrap_i64]; have := HN.out; omega
              have e2 : IntKind.i64.wrap ((n : Int) - 1 - (j : Int)) = (m : Int) := by rw [IntKind.wrap_i64]; have := HN.out; omega
              obtain ⟨gn, on, y, old, rfl, hnk, hys, d1, d2, d3, d4⟩ := H15.out _ _ _ _ _ _ m _ (by omega) (by omega) HI.out
              have J15 := hidi d4
              clear d4 HI
              go_wp2_with fail
              go_roundg m
              case measure => omega
              case rel => exact ⟨j + 1, by omega, by simp, J15.out⟩
end Go.Proofs.YtglnldopnoafoaaGreatDoor
namespace Go.Proofs.YtglnldopnoafoaaGreatDoor
open Go Go.RowKit
set_option linter.unusedSimpArgs false
set_option linter.unusedVariables false

/-! ### A room with one list of texts, by its blocks -/
theorem cell_same {w w' : World} {a : Addr} (h : w'.heap[a.block]? = w.heap[a.block]?) : w'.cell? a = w.cell? a := by
  unfold World.cell?
  rw [h]
/-- g: its list of l texts; V: its blocks. -/
def R1 (W : World) (R base g l : Nat) (V : Nat → Prop) : Prop := ∃ cs vb va xsb xsa cp, Rm.Rq W R base 1 cs vb va xsb xsa ∧ xsb = [.slice (some ⟨g, 0, none⟩) (l + 40) cp] ∧ xsa = [.int .i64 (l : Nat)] ∧ ∀ k, V k ↔ k = R ∨ vb.ownBlock = some k ∨ va.ownBlock = some k ∨ k = g
theorem R1.list {W : World} {R base g l : Nat} {V : Nat → Prop} (h : R1 W R base g l V) : ∃ c, W.heap[g]? = some (.cells c 9 (0, 0)) := by
  obtain ⟨cs, vb, va, xsb, xsa, cp1, hq, rfl, rfl, hV⟩ := h
  obtain ⟨g', n, cp, cur, e1, e2, e3, e4, e5, e6⟩ := hq.lists 0 (by omega)
  simp at e1
  refine ⟨cur, ?_⟩
  rw [e1.1]
  exact e5
theorem R1.lt {W : World} {R base g l : Nat} {V : Nat → Prop} (h : R1 W R base g l V) {k : Nat} (hk : V k) : k < W.heap.size := by
  obtain ⟨c1, q1⟩ := h.list
  obtain ⟨cs, vb, va, xsb, xsa, cp1, hq, rfl, rfl, hV⟩ := h
  rcases (hV k).1 hk with rfl | e | e | rfl
  · exact lt_of_block hq.at_
  · exact (hq.ob.lt k e).2
  · exact (hq.oa.lt k e).2
  · exact lt_of_block q1
theorem R1.in_ {W : World} {R base g l : Nat} {V : Nat → Prop} (h : R1 W R base g l V) : V g := by
  obtain ⟨cs, vb, va, xsb, xsa, cp1, hq, rfl, rfl, hV⟩ := h
  exact (hV g).2 (.inr (.inr (.inr rfl)))
/-- The room goes on where its own blocks stay, but for the texts of its list. -/
theorem R1.keep {W W' : World} {R base g l : Nat} {V : Nat → Prop} (h : R1 W R base g l V) (hk : ∀ k, V k → k ≠ g → W'.heap[k]? = W.heap[k]?)
    (h1 : ∃ c, W'.heap[g]? = some (.cells c 9 (0, 0))) (m1 : ∀ k, l ≤ k → W'.cell? ⟨g, k, none⟩ = W.cell? ⟨g, k, none⟩) : R1 W' R base g l V := by
  obtain ⟨c1, q1⟩ := h.list
  obtain ⟨cs, vb, va, xsb, xsa, cp1, hq, rfl, rfl, hV⟩ := h
  have ne : ∀ (k : Nat) (c : Array Value) (t : TypeId), t ≠ 9 → W.heap[k]? = some (.cells c t (0, 0)) → k ≠ g := fun k c t ht hc => blk_ne hc q1 ht
  have kR : W'.heap[R]? = W.heap[R]? := hk R ((hV R).2 (.inl rfl)) (ne R _ _ (by decide) hq.at_)
  have kb : ∀ k, vb.ownBlock = some k → W'.heap[k]? = W.heap[k]? := fun k e => by
    obtain ⟨c, hc⟩ := own_blk hq.ob e
    exact hk k ((hV k).2 (.inr (.inl e))) (ne k _ _ (by decide) hc)
  have ka : ∀ k, va.ownBlock = some k → W'.heap[k]? = W.heap[k]? := fun k e => by
    obtain ⟨c, hc⟩ := own_blk hq.oa e
    exact hk k ((hV k).2 (.inr (.inr (.inl e)))) (ne k _ _ (by decide) hc)
  refine ⟨cs, vb, va, _, _, cp1, ⟨kR.trans hq.at_, hq.c0, hq.c1, hq.nil, hq.bs, own_keep hq.ob kb, own_keep hq.oa ka, fun i hi => ?_⟩, rfl, rfl, hV⟩
  obtain ⟨g', n, cp, cur, e1, e2, e3, e4, e5, e6⟩ := hq.lists i hi
  obtain rfl : i = 0 := by omega
  simp at e1 e2
  obtain ⟨rfl, e1b, rfl⟩ := e1
  obtain rfl : l = n := by omega
  obtain ⟨c, hc⟩ := h1
  exact ⟨g, l, cp1, c, rfl, rfl, e3, e4, hc, fun k hk' => (m1 _ (by omega)).trans (e6 k hk')⟩
theorem R1.same {W W' : World} {R base g l : Nat} {V : Nat → Prop} (h : R1 W R base g l V) (hk : ∀ k, V k → W'.heap[k]? = W.heap[k]?) : R1 W' R base g l V := by
  obtain ⟨c, hc⟩ := h.list
  exact h.keep (fun k q _ => hk k q) ⟨c, (hk g h.in_).trans hc⟩ (fun k _ => cell_same (hk g h.in_))
theorem R1.hold {W : World} {R base g l : Nat} {V : Nat → Prop} (h : R1 W R base g l V) : Calls Tryz.prog 13 #[.pointer (some ⟨R, 0, none⟩)] W fun e w' => e = .returned (.bool true) ∧ w' = W := by
  obtain ⟨cs, vb, va, xsb, xsa, cp1, hq, rfl, rfl, hV⟩ := h
  exact hq.hold (by omega) (by omega)
/-- A text of the list is written. -/
theorem R1.write {W : World} {R base g l i : Nat} {V : Nat → Prop} (h : R1 W R base g l V) (hi : i < l) (x : ByteArray) : R1 (W.setCell ⟨g, i, none⟩ (.string x)) R base g l V := by
  obtain ⟨c, hc⟩ := h.list
  exact h.keep (fun k _ q => Below.heap_setCell _ _ _ _ q) ⟨_, heap_set (i := i) hc _⟩ (fun k hk => World.cell?_setCell_other W _ _ _ (fun e => by have := congrArg Addr.off e; simp at this; omega))
end Go.Proofs.YtglnldopnoafoaaGreatDoor
namespace Go.Proofs.YtglnldopnoafoaaGreatDoor
open Go Go.RowKit
set_option linter.unusedSimpArgs false
set_option linter.unusedVariables false

theorem lay2 {w : World} {R base m : Nat} {cs : Array Value} {vb va : Value} {xsb xsa : List Value} (h : Rm.Rq w R base m cs vb va xsb xsa) (hm1 : m ≤ 900) (ao : Option Addr) (len cap : Nat) (z : Nat → ByteArray) (hm : len ≤ 140000) (hc : Rm.Came w ao len cap z) :
    Calls Tryz.prog 7 #[.pointer (some ⟨R, 0, none⟩), .slice ao len cap] w fun e w' => ∃ g cs' vb' va' xsb' xsa' cp, e = .returned (.slice (some ⟨g, 0, none⟩) len (len + 40)) ∧ w.heap.size ≤ g ∧
      Rm.Rq w' R base (m + 1) cs' vb' va' xsb' xsa' ∧ Rm.Came w' (some ⟨g, 0, none⟩) len (len + 40) z ∧ Rm.BelF base w w' ∧ xsb' = xsb ++ [.slice (some ⟨g, 0, none⟩) (len + 40) cp] ∧ xsa' = xsa ++ [.int .i64 (len : Nat)] ∧ ∃ cur, w'.heap[g]? = some (.cells cur 9 (0, 0)) := by
  refine Rm.bytes_wrap _ _ _ _ _ _ ((Rm.lay_any R base m cs vb va xsb xsa ao len cap z w hm (by omega) hc h.at_ h.c0 h.c1 h.bs h.ob h.oa).mono ?_)
  rintro e w' ⟨g, cp, cur, vb', va', rfl, hg, hh, hs, hl, ht, hR, ob, oa, hb⟩
  have cell : ∀ j, j < len + 40 → w'.cell? ⟨g, j, none⟩ = (Rm.cellsOf z len ++ Rm.cellsOf Rm.mark 40)[j]? := by
    intro j hj
    rw [← ht, List.getElem?_take_of_lt hj]
    have hj' : j < cur.size := by omega
    simp [World.cell?, hh]
  have s0 : 4 < cs.size := (Array.getElem?_eq_some_iff.1 h.c0).1
  have s1 : 5 < cs.size := (Array.getElem?_eq_some_iff.1 h.c1).1
  have lb : xsb.length = m := by simpa using h.ob.1
  have la : xsa.length = m := by simpa using h.oa.1
  refine ⟨g, len, len + 40, rfl, g, _, vb', va', _, _, cp, rfl, hg, ⟨hR, ?_, ?_, fun i h2 h2' h28 => ?_, h.bs, ob, oa, fun i hi => ?_⟩, ⟨by omega, hc.2.1, .inr ⟨_, rfl, ?_⟩⟩, hb, rfl, rfl, _, hh⟩
  · simp [Array.getElem?_setIfInBounds, s0, s1]
  · simp [Array.getElem?_setIfInBounds, s0, s1]
  · simp [Array.getElem?_setIfInBounds, show ¬ 5 = i by omega, show ¬ 4 = i by omega, h.nil i h2 h2' h28]
  · by_cases q : i < m
    · obtain ⟨g', n, cp', cur', e1, e2, e3, e4, e5, e6⟩ := h.lists i q
      refine ⟨g', n, cp', cur', by rw [List.getElem?_append_left (by omega)]; exact e1, by rw [List.getElem?_append_left (by omega)]; exact e2, e3, e4, (hb.2 g' cur' 9 (.inl rfl) e5).trans e5, fun k hk => ?_⟩
      rw [← e6 k hk]
      unfold World.cell?
      rw [show (⟨g', n + k, none⟩ : Addr).block = g' from rfl, hb.2 g' cur' 9 (.inl rfl) e5]
    · obtain rfl : i = m := by omega
      refine ⟨g, len, cp, cur, by rw [List.getElem?_append_right (by omega)]; simp [lb], by rw [List.getElem?_append_right (by omega)]; simp [la], hm, hl, hh, fun k hk => ?_⟩
      rw [cell (len + k) (by omega), List.getElem?_append_right (by rw [Rm.cellsOf_length]; omega), Rm.cellsOf_length, Nat.add_sub_cancel_left, Rm.cellsOf_at Rm.mark 40 k hk]
  · intro i hi
    rw [Rm.plain_add, Nat.zero_add, cell i (by omega), List.getElem?_append_left (by rw [Rm.cellsOf_length]; omega), Rm.cellsOf_at z len i hi]
theorem heap_two {w : World} (o o' : Obj) : ((w.alloc o).alloc o').heap[w.heap.size + 1]? = some o' := by
  have := heap_alloc_new (w.alloc o) o'
  simpa using this
/-- A list is laid into a new room, beside a new book. -/
theorem room_texts {W : World} {al : Option Addr} {n cap : Nat} {z : Nat → ByteArray} (hn : n ≤ 300) (hc : Rm.Came W al n cap z) :
    Calls Tryz.prog 7 #[.pointer (some ⟨W.heap.size, 0, none⟩), .slice al n cap] ((W.alloc (.cells Rm.nil28 44)).alloc (.cells bk0 51)) fun r w' => ∃ gi, r = .returned (.slice (some ⟨gi, 0, none⟩) n (n + 40)) ∧ ∃ V, R1 w' W.heap.size W.heap.size gi n V ∧ Bk w' (W.heap.size + 1) 0 (fun k => k = W.heap.size + 1) ∧ (∀ k, V k → W.heap.size ≤ k ∧ k ≠ W.heap.size + 1) ∧ Below W.heap.size W w' ∧ ∀ j, j < n → w'.cell? ⟨gi, j, none⟩ = some (.string (z j)) := by
  have hq0 := Rm.Rq.start W
  have hB : Below W.heap.size W ((W.alloc (.cells Rm.nil28 44)).alloc (.cells bk0 51)) := ((Below.refl _ _).alloc (Nat.le_refl _) _).alloc (by simp) _
  have hq : Rm.Rq ((W.alloc (.cells Rm.nil28 44)).alloc (.cells bk0 51)) W.heap.size W.heap.size 0 Rm.nil28 (.slice none 0 0) (.slice none 0 0) [] [] := by
    refine ⟨?_, hq0.c0, hq0.c1, hq0.nil, hq0.bs, World.ownsRow_nil _ _ _ _, World.ownsRow_nil _ _ _ _, fun i hi => by omega⟩
    rw [Below.heap_alloc _ _ _ (by simp)]
    exact hq0.at_
  have hbb : ((W.alloc (.cells Rm.nil28 44)).alloc (.cells bk0 51)).heap[W.heap.size + 1]? = some (.cells bk0 51 (0, 0)) := heap_two _ _
  refine (lay2 hq (by omega) al n cap z (by omega) (Rm.came_below (B := 0) hc hB)).mono ?_
  rintro e w' ⟨g, cs, vb, va, xsb, xsa, cp, rfl, hg, q1, q2, q3, rfl, rfl, cur, q4⟩
  have k6 : w'.heap[W.heap.size + 1]? = some (.cells bk0 51 (0, 0)) := (q3.2 _ _ 51 (.inr rfl) hbb).trans hbb
  simp at hg
  refine ⟨g, rfl, fun k => k = W.heap.size ∨ vb.ownBlock = some k ∨ va.ownBlock = some k ∨ k = g, ⟨cs, vb, va, _, _, cp, q1, rfl, rfl, fun k => Iff.rfl⟩, bk_start k6 bk0_hd bk0_rows, fun k q => ?_, hB.trans q3.1, fun j hj => ?_⟩
  · rcases q with rfl | e | e | rfl
    · exact ⟨Nat.le_refl _, by omega⟩
    · obtain ⟨c, hc⟩ := own_blk q1.ob e
      refine ⟨(q1.ob.lt k e).1, fun q => ?_⟩
      rw [q, k6] at hc
      simp at hc
    · obtain ⟨c, hc⟩ := own_blk q1.oa e
      refine ⟨(q1.oa.lt k e).1, fun q => ?_⟩
      rw [q, k6] at hc
      simp at hc
    · exact ⟨by omega, by omega⟩
  · rcases q2.2.2 with ⟨q, _⟩ | ⟨ad, q, h⟩
    · cases q
    · obtain rfl := Option.some.inj q
      have := h j hj
      rw [Rm.plain_add, Nat.zero_add] at this
      exact this
end Go.Proofs.YtglnldopnoafoaaGreatDoor
namespace Go.Proofs.YtglnldopnoafoaaGreatDoor
open Go Go.RowKit
set_option linter.unusedSimpArgs false
set_option linter.unusedVariables false

/-! ### CoverLeast: what is in memory -/
theorem totT_nn : ∀ l : List ByteArray, 0 ≤ totT l
  | [] => Int.le_refl _
  | x :: r => by have := totT_nn r; unfold totT; omega
theorem totT_mem : ∀ (l : List ByteArray) (y : ByteArray), y ∈ l → (y.size : Int) ≤ totT l
  | x :: r, y, h => by
    have := totT_nn r
    unfold totT
    rcases List.mem_cons.1 h with rfl | h
    · omega
    · have := totT_mem r y h
      omega
theorem totT_app : ∀ (l m : List ByteArray), totT (l ++ m) = totT l + totT m
  | [], m => by simp [totT]
  | x :: r, m => by have := totT_app r m; simp only [List.cons_append, totT]; omega
theorem totT_rev : ∀ (l : List ByteArray), totT l.reverse = totT l
  | [] => rfl
  | x :: r => by have := totT_rev r; rw [List.reverse_cons, totT_app]; simp only [totT]; omega
def sl (y : ByteArray) : ByteArray := y ++ ⟨#[47, 97]⟩
theorem sl_size (y : ByteArray) : (sl y).size = y.size + 2 := by
  unfold sl
  rw [ByteArray.size_append]
  rfl
theorem totT_sl : ∀ (l : List ByteArray), totT (l.map sl) = totT l + 2 * l.length
  | [] => rfl
  | x :: r => by have := totT_sl r; simp only [List.map_cons, totT, sl_size, List.length_cons]; omega
/-- The book, the room and its list of texts. -/
structure LS (w : World) (n R gi N : Nat) (ys : List ByteArray) (U V : Nat → Prop) (W : World) : Prop where
  be : Below w.heap.size w W
  bk : Bk W (R + 1) N U
  rm : R1 W R R gi n V
  uv : ∀ k, U k → ¬ V k
  lo : ∀ k, U k ∨ V k → w.heap.size ≤ k
  cl : ∀ j y, ys[j]? = some y → W.cell? ⟨gi, j, none⟩ = some (.string y)
  ln : ys.length = n
theorem LS.below {w : World} {n R gi N : Nat} {ys : List ByteArray} {U V : Nat → Prop} {W W' : World} (h : LS w n R gi N ys U V W) (hb : Below W.heap.size W W') : LS w n R gi N ys U V W' :=
  ⟨h.be.trans (hb.mono h.be.size), h.bk.keep (fun k q => hb.block k (h.bk.lt q)), h.rm.same (fun k q => hb.block k (h.rm.lt q)), h.uv, h.lo, fun j y q => (cell_same (hb.block gi (h.rm.lt h.rm.in_))).trans (h.cl j y q), h.ln⟩
theorem LS.row {w : World} {n R gi N : Nat} {ys : List ByteArray} {U V : Nat → Prop} {W : World} (h : LS w n R gi N ys U V W) : Row W (.slice (some ⟨gi, 0, none⟩) n (n + 40)) ys :=
  ⟨_, n, n + 40, rfl, h.ln.symm, by omega, fun _ => ⟨gi, 0, rfl, h.rm.lt h.rm.in_, fun k x q => by rw [Nat.zero_add]; exact h.cl k x q⟩⟩
/-- A list of one's own beside them. -/
structure LN (ys : List ByteArray) (U V : Nat → Prop) (lo : Nat) (a : Option Addr) (l c : Nat) (W : World) : Prop where
  own : W.ownsRow 0 9 1 (.slice a l c) l (ys.map Value.string)
  len : l = ys.length
  off : ∀ g, (Value.slice a l c).ownBlock = some g → ¬ U g ∧ ¬ V g ∧ lo ≤ g
theorem LN.below {ys : List ByteArray} {U V : Nat → Prop} {lo : Nat} {a : Option Addr} {l c : Nat} {W W' : World} (h : LN ys U V lo a l c W) (hb : Below W.heap.size W W') : LN ys U V lo a l c W' :=
  ⟨own_keep h.own (fun k q => hb.block k ((h.own.lt k q).2)), h.len, h.off⟩
theorem LN.row {ys : List ByteArray} {U V : Nat → Prop} {lo : Nat} {a : Option Addr} {l c : Nat} {W : World} (h : LN ys U V lo a l c W) : Row W (.slice a l c) ys := by
  have := h.own
  rw [h.len] at this ⊢
  exact row_of this
/-- All three. -/
structure L2 (w : World) (n R gi N : Nat) (ys : List ByteArray) (U V : Nat → Prop) (a : Option Addr) (k : Nat) (sa : Option Addr) (sn sc : Nat) (W : World) : Prop where
  ls : LS w n R gi N ys U V W
  ln : LN ys U V w.heap.size a n k W
  l2 : LN (lea ys.length ys) U V w.heap.size sa sn sc W
  ne : ∀ g, (Value.slice sa sn sc).ownBlock = some g → ¬ (Value.slice a n k).ownBlock = some g
  tt : totT ys ≤ 21000
  nn : n ≤ 40
theorem L2.below {w : World} {n R gi N : Nat} {ys : List ByteArray} {U V : Nat → Prop} {a : Option Addr} {k : Nat} {sa : Option Addr} {sn sc : Nat} {W W' : World} (h : L2 w n R gi N ys U V a k sa sn sc W) (hb : Below W.heap.size W W') : L2 w n R gi N ys U V a k sa sn sc W' :=
  ⟨h.ls.below hb, h.ln.below hb, h.l2.below hb, h.ne, h.tt, h.nn⟩
theorem lea_len : ∀ (k : Nat) (l : List ByteArray), (lea k l).length ≤ l.length
  | 0, l => Nat.le_refl _
  | k + 1, l => by
    unfold lea
    split
    · exact Nat.le_trans (lea_len k _) (by rw [List.length_eraseIdx]; split <;> omega)
    · exact lea_len k l
end Go.Proofs.YtglnldopnoafoaaGreatDoor
