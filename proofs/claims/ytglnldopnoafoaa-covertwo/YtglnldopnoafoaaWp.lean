import Derived.Test.YtglnldopnoafoaaWo
import Derived.Deep.LoopGhost
namespace Go.Proofs.Ytglnldopnoafoaa
open Go Go.RowKit
set_option linter.unusedSimpArgs false
set_option linter.unusedVariables false

theorem St.row {w0 w : World} {lb sb lc sc : Nat} {L : List ByteArray} {D : List Sx} (h : St w0 w lb sb lc sc L D) : Row w (.slice (some ⟨lb, 0, none⟩) L.length lc) L := by
  refine ⟨_, _, _, rfl, rfl, h.lc1, fun _ => ⟨lb, 0, rfl, h.l1, fun k x hk => ?_⟩⟩
  have hk' := (List.getElem?_eq_some_iff.1 hk).1
  rw [(h.hl k (by simpa using hk')).1]
  have : L[k] = x := (List.getElem?_eq_some_iff.1 hk).2
  simp [hk', this]
  exact mk_un x
theorem lies_no (L : List ByteArray) (i : Nat) (h : ∀ j, j < L.length → j ≠ i → inP (L[i]?.getD ⟨#[]⟩) (L[j]?.getD ⟨#[]⟩) = false) : lies L i = false := by
  unfold lies
  rw [List.any_eq_false]
  intro j hj
  simp only [List.mem_range] at hj
  by_cases e : j = i
  · simp [e]
  · simp [e, h j hj e]
theorem lies_yes (L : List ByteArray) (i j : Nat) (hj : j < L.length) (hne : j ≠ i) (h : inP (L[i]?.getD ⟨#[]⟩) (L[j]?.getD ⟨#[]⟩) = true) : lies L i = true := by
  unfold lies
  rw [List.any_eq_true]
  exact ⟨j, by simpa using hj, by simp [hne, h]⟩
/-- The first state: a copy of the list, and as many nils. -/
theorem Sf.first {w w1 : World} {lb lc : Nat} {l : List ByteArray} (hown : w1.ownsRow w.heap.size 9 1 (.slice (some ⟨lb, 0, none⟩) l.length lc) l.length (l.map Value.string)) (hb : Below w.heap.size w w1) (hl : l.length ≤ 1000) : Sf w (w1.alloc (.cells (madeCells #[.slice none 0 0] l.length) 27)) lb w1.heap.size lc l (List.replicate l.length (none, 0, 0)) 0 := by
  have hlt := hown.lt lb rfl
  have hcap : l.length ≤ lc ∧ lc ≤ maxLen := by
    rcases hown.2 with ⟨e, _⟩ | ⟨g', cap', cur, e, _, _, hc, hm, _⟩
    · cases e
    · simp only [Value.slice.injEq] at e
      rw [e.2.2]; exact ⟨hc, hm⟩
  have b2 : Below w1.heap.size w1 (w1.alloc (.cells (madeCells #[.slice none 0 0] l.length) 27)) := (Below.refl _ _).alloc (Nat.le_refl _) _
  have hH : Sort.Holds encStr w1 lb 0 (l.map unB).toArray := by
    have : (l.map Value.string) = (((l.map unB).map mkB).map Value.string) := by
      rw [List.map_map, List.map_map]
      exact List.map_congr_left fun x _ => by simp [mk_un]
    rw [this] at hown
    have h3 := holds_own (n := l.length) hown
    exact h3
  refine ⟨hb.trans (b2.mono hb.size), hlt.1, by simp; omega, hb.size, by simp, by omega, holds_below _ hH b2 hlt.2, ?_, by simp, hcap.1, by have := hcap.2; unfold maxLen at this; omega, by omega, fun j x d hj => absurd hj (Nat.not_lt_zero _)⟩
  intro j hj
  have hj' : j < l.length := by simpa using hj
  constructor
  · rw [World.cell?_alloc_at _ _ _ _ rfl]
    rw [Array.getElem?_eq_getElem (by rw [size_madeCells]; omega)]
    simp [madeCells, hj', encSl, Nat.mod_one]
  · rw [World.frozen?_alloc_at _ _ _ _ rfl]
set_option maxRecDepth 100000 in
set_option maxHeartbeats 4000000 in
theorem least_go (l : List ByteArray) (hne : l ≠ []) (hl : l.length ≤ 1000) (v : Value) (w : World) (R : Row w v l) : Calls Try.prog 16 #[v] w fun e w' => ∃ v', e = .returned v' ∧ Row w' v' (lea l.length l) ∧ Below w.heap.size w w' := by
  obtain ⟨a, n, cap, rfl, hn, hc, hx⟩ := R
  obtain ⟨g, o, rfl, hg, hk⟩ := hx hne
  obtain ⟨i0, hi, hz0, hz1, hz2⟩ : ∃ i0, Try.prog.info? 27 = some i0 ∧ i0.zero = some (.slice none 0 0) ∧ i0.size = 1 ∧ i0.bytes = 24 := ⟨_, rfl, rfl, rfl, rfl⟩
  have hpos : 0 < l.length := List.length_pos_iff.2 hne
  have CL : Hid (Calls Try.prog 38 #[.slice (some ⟨g, o, none⟩) n cap] w fun e w' => ∃ lb lc, e = .returned (.slice (some ⟨lb, 0, none⟩) n lc) ∧ w'.ownsRow w.heap.size 9 1 (.slice (some ⟨lb, 0, none⟩) n lc) n (l.map Value.string) ∧ Below w.heap.size w w') := by
    refine (Try.slices_Clone_string g o n cap l w (by omega) (by omega) (fun j hj => by rw [hk j l[j] (by simp [hj])]; simp [hj])).mono ?_
    rintro e w' ⟨v', rfl, ho, hv, hb⟩
    rw [List.take_of_length_le (by omega)] at ho
    obtain ⟨lb, lc, rfl⟩ : ∃ lb lc, v' = .slice (some ⟨lb, 0, none⟩) n lc := by
      obtain ⟨m, hm⟩ : ∃ m, n = m + 1 := ⟨n - 1, by omega⟩
      subst hm
      exact ownsRow_succ ho
    exact ⟨lb, lc, rfl, ho, hb⟩
  have MK : Hid (∀ w1 : World, (Instr.makeSlice 42 (.int .i64 (n : Int)) (.int .i64 (n : Int))).run Try.prog w1 = .ok (.slice (some ⟨w1.heap.size, 0, none⟩) n n) (w1.alloc (.cells (madeCells #[.slice none 0 0] n) 27))) := by
    intro w1
    have := run_make (P := Try.prog) w1 42 27 i0 (.slice none 0 0) Try.underlying42 hi hz0 .i64 .i64 n n (by omega) (by omega) (by rw [hz2]; omega) (by omega)
    rw [hz1] at this
    rw [show (Value.slice none 0 0).cells = #[Value.slice none 0 0] from rfl] at this
    simpa using this
  have HC : Hid (∀ w1, Below w.heap.size w w1 → ∀ j x, l[j]? = some x → w1.cell? ⟨g, o + j, none⟩ = some (.string x)) := fun w1 hb j x hj => (hb.cell (p := ⟨g, o + j, none⟩) hg).trans (hk j x hj)
  have HNL : Hid (n = l.length ∧ n ≤ 1000 ∧ n ≤ cap ∧ 0 < n) := ⟨hn, by omega, hc, by omega⟩
  clear hi hz0 hz1 hz2 hk hx hg hpos hn hc hl hne
  go_enter Try.func16, Try.ntmps16
  go_wp2_with fail
  go_step3
  go_wp2_with fail
  go_must (go_at_call 38)
  refine CL.out.mono ?_
  rintro e w1 ⟨lb, lc, rfl, ho, hb⟩
  have S0 : Hid (Sf w (w1.alloc (.cells (madeCells #[.slice none 0 0] n) 27)) lb w1.heap.size lc l (List.replicate l.length (none, 0, 0)) 0) := by
    have h1 := HNL.out
    rw [h1.1] at ho ⊢
    exact Sf.first ho hb (by omega)
  have hmk := MK.out w1
  clear ho hb CL MK
  obtain ⟨sb, hsb⟩ : ∃ sb, w1.heap.size = sb := ⟨_, rfl⟩
  rw [hsb] at S0 hmk
  go_wp2_with fail
  clear hmk
  try rw [hsb]
  clear hsb
  go_loopg [17] n (fun gk s17 wx => ∃ (j : Nat) (D : List Sx), j + gk = n ∧ s17 = .int .i64 j ∧ Hid (Sf w wx lb sb lc l D j))
  case atStart => exact ⟨0, _, by omega, rfl, S0⟩
  case round =>
    obtain ⟨j, D, hj, rfl, SJ⟩ := hrel
    cases gk with
    | succ gk =>
      have hjz : (j : Int) < (n : Int) := by omega
      have hj0 : (0 : Int) ≤ (j : Int) := by omega
      obtain ⟨x, hx⟩ : ∃ x, l[j]? = some x := ⟨_, List.getElem?_eq_getElem (by have := HNL.out; omega)⟩
      have HX : Hid (l[j]? = some x) := hx
      have hc1 := HC.out wr SJ.out.bel j x hx
      clear hx
      have hw1 : IntKind.i64.wrap ((j : Int) + 1) = (j : Int) + 1 := by rw [IntKind.wrap_i64]; have := HNL.out; omega
      go_wp2_with fail
      go_must (go_at_call 17)
      refine (lvN_any x wr).mono ?_
      rintro e w2 ⟨v2, rfl, hr, hb, hv⟩
      have S2 := SJ.out.later hb
      have hgn : ∀ g, v2.ownBlock = some g → g ≠ lb ∧ g ≠ sb := fun g hg => by
        have h1 := hv g hg
        have h2 := SJ.out.l1
        have h3 := SJ.out.s1
        omega
      have hr2 := hr
      obtain ⟨a2, k2, c2, hv2, -⟩ := hr
      subst hv2
      have S3 : Hid (Sf w (w2.setCell ⟨sb, j, none⟩ (.slice a2 k2 c2)) lb sb lc l (D.set j (a2, k2, c2)) (j + 1)) := S2.store x (a2, k2, c2) HX.out hr2 hgn
      have hjD : j < D.length := by have := S2.len; have := HNL.out; omega
      obtain ⟨dv, hcs⟩ : ∃ dv, w2.cell? ⟨sb, j, none⟩ = some dv := by
        have := (S2.hs j (by simpa using hjD)).1
        rw [Nat.zero_add] at this
        exact ⟨_, this⟩
      have hfs : w2.frozen? ⟨sb, j, none⟩ = false := by
        have := (S2.hs j (by simpa using hjD)).2
        rw [Nat.zero_add] at this
        exact this
      clear hr2 hb hv S2 hgn hjD SJ
      go_wp2_with fail
      go_roundg gk
      case measure => omega
      case rel => exact ⟨j + 1, _, by omega, by first | rfl | simp, S3⟩
    | zero =>
      have hjz : ¬ (j : Int) < (n : Int) := by omega
      have T0 : Hid (St w wr lb sb lc n l D) := by
        have h1 := HNL.out
        have h2 : j = l.length := by omega
        have := SJ.out
        rw [h2] at this
        rw [h1.1]
        exact this.whole
      clear SJ
      go_wp2_with fail
      go_step3
      have hwn : IntKind.i64.wrap ((n : Int) - 1) = (n : Int) - 1 := by rw [IntKind.wrap_i64]; have := HNL.out; omega
      go_wp2_with fail
      have HL0 : Hid (n ≤ 1000) := HNL.out.2.1
      go_loopg [3, 4, 7] n (fun gk s3 s4 s7 wx => ∃ (L : List ByteArray) (D : List Sx), s3 = .slice (some ⟨lb, 0, none⟩) L.length lc ∧ s4 = .slice (some ⟨sb, 0, none⟩) L.length n ∧ s7 = .int .i64 ((gk : Int) - 1) ∧ gk ≤ L.length ∧ L.length ≤ n ∧ Hid (St w wx lb sb lc n L D) ∧ Hid (lea gk L = lea l.length l))
      case atStart =>
        have h1 := HNL.out
        exact ⟨l, D, by rw [h1.1], by rw [← h1.1], rfl, by omega, by omega, T0, by show _ = _; rw [h1.1]⟩
      case round =>
        obtain ⟨L, E, rfl, rfl, rfl, hgL, hLn, SL, HE⟩ := hrel
        obtain ⟨m, hm⟩ : ∃ m, L.length = m := ⟨_, rfl⟩
        rw [hm] at hgL hLn ⊢
        have HM : Hid (L.length = m) := hm
        clear hm
        cases gk with
        | zero =>
          have hz : ¬ (0 : Int) ≤ ((0 : Nat) : Int) - 1 := by omega
          have RR : Hid (Row wr (.slice (some ⟨lb, 0, none⟩) m lc) (lea l.length l)) := by
            have := SL.out.row
            rw [HM.out] at this
            rw [← HE.out]
            exact this
          have BB : Hid (Below w.heap.size w wr) := SL.out.bel
          go_wp2_with fail
          try rw [Exit.noGoto_ret]
          go_ret
          exact ⟨_, rfl, RR.out, BB.out⟩
        | succ q =>
          have eq1 : (((q + 1 : Nat) : Int) - 1) = (q : Int) := by omega
          rw [eq1]
          have hq0 : (0 : Int) ≤ (q : Int) := by omega
          have hq1 : (q : Int) < (m : Int) := by omega
          have hwq : IntKind.i64.wrap ((q : Int) - 1) = (q : Int) - 1 := by rw [IntKind.wrap_i64]; have := HL0.out; omega
          have hwp : IntKind.i64.wrap ((q : Int) + 1) = (q : Int) + 1 := by rw [IntKind.wrap_i64]; have := HL0.out; omega
          obtain ⟨xq, hxq⟩ : ∃ x, L[q]? = some x := ⟨_, List.getElem?_eq_getElem (by have := HM.out; omega)⟩
          obtain ⟨dq, hdq⟩ : ∃ d, E[q]? = some d := ⟨_, List.getElem?_eq_getElem (by have := HM.out; have := SL.out.len; omega)⟩
          have HXQ : Hid (L[q]? = some xq ∧ E[q]? = some dq) := ⟨hxq, hdq⟩
          clear hxq hdq
          go_wp2_with fail
          go_loopg [3, 4, 37] m (fun g2 s3 s4 s37 wy => ∃ j : Nat, s3 = .slice (some ⟨lb, 0, none⟩) m lc ∧ s4 = .slice (some ⟨sb, 0, none⟩) m n ∧ j + g2 = m ∧ s37 = .int .i64 j ∧ Hid (St w wy lb sb lc n L E) ∧ Hid (∀ j', j' < j → j' ≠ q → inP (L[q]?.getD ⟨#[]⟩) (L[j']?.getD ⟨#[]⟩) = false))
          case atStart => exact ⟨0, rfl, rfl, by omega, rfl, SL, fun j' h => absurd h (Nat.not_lt_zero _)⟩
          case round =>
            obtain ⟨j, rfl, rfl, hjg, rfl, SY, HJ⟩ := hrel
            cases gk with
            | zero =>
              have hjz : ¬ ((j : Int) < (m : Int)) := by omega
              have HE2 : Hid (lea q L = lea l.length l) := by
                show _ = _
                rw [← HE.out, lea, lies_no L q (fun j' h1 h2 => HJ.out j' (by have := HM.out; omega) h2)]
                rfl
              go_wp2_with fail
              go_roundg q
              case measure => omega
              case rel => exact ⟨L, E, by rw [HM.out], by rw [HM.out], by first | rfl | simp, by have := HM.out; omega, by have := HM.out; omega, SY, HE2⟩
            | succ g2 =>
              have hjz : (j : Int) < (m : Int) := by omega
              have hj0 : (0 : Int) ≤ (j : Int) := by omega
              have hwj : IntKind.i64.wrap ((j : Int) + 1) = (j : Int) + 1 := by rw [IntKind.wrap_i64]; have := HL0.out; omega
              obtain ⟨xj, hxj⟩ : ∃ x, L[j]? = some x := ⟨_, List.getElem?_eq_getElem (by have := HM.out; omega)⟩
              obtain ⟨dj, hdj⟩ : ∃ d, E[j]? = some d := ⟨_, List.getElem?_eq_getElem (by have := HM.out; have := SL.out.len; omega)⟩
              have cj := SY.out.cellS j dj hdj
              have cq := SY.out.cellS q dq HXQ.out.2
              by_cases hjq : j = q
              · have hne : ((j : Int) != (q : Int)) = false := by simp [hjq]
                have HJ2 : Hid (∀ j', j' < j + 1 → j' ≠ q → inP (L[q]?.getD ⟨#[]⟩) (L[j']?.getD ⟨#[]⟩) = false) := by
                  intro j' h1 h2
                  exact HJ.out j' (by omega) h2
                clear hjq hxj hdj
                go_wp2_with fail
                go_roundg g2
                case measure => omega
                case rel => exact ⟨j + 1, rfl, rfl, by omega, by first | rfl | simp, SY, HJ2⟩
              · have hne : ((j : Int) != (q : Int)) = true := by simp; omega
                have WI : Hid (Calls Try.prog 32 #[.slice dq.1 dq.2.1 dq.2.2, .slice dj.1 dj.2.1 dj.2.2] wr fun e w' => e = .returned (.bool (inP xq xj)) ∧ Below wr.heap.size wr w') := by
                  have h1 := (SY.out.rows q xq dq HXQ.out.1 HXQ.out.2).1
                  have h2 := (SY.out.rows j xj dj hxj hdj).1
                  have := within_row ((lvO xq).map mkB) ((lvO xj).map mkB) (by have := lvO_len xq; simp; omega) _ _ wr h1 h2
                  rw [map_un_mk, map_un_mk] at this
                  have e0 : inP xq xj = (outL (lvO xq) (lvO xj)).isNone := by unfold inP outP; cases outL (lvO xq) (lvO xj) <;> rfl
                  rw [e0]
                  exact this
                have HXJ : Hid (L[j]? = some xj ∧ ¬ j = q) := ⟨hxj, hjq⟩
                obtain ⟨b, hb⟩ : ∃ b, inP xq xj = b := ⟨_, rfl⟩
                have HBB : Hid (inP (L[q]?.getD ⟨#[]⟩) (L[j]?.getD ⟨#[]⟩) = b) := by show _ = _; rw [HXQ.out.1, hxj]; exact hb
                rw [hb] at WI
                clear hxj hdj hjq hb
                cases b with
                | false =>
                  go_wp2_with fail
                  go_must (go_at_call 32)
                  refine WI.out.mono ?_
                  rintro e w2 ⟨rfl, hb2⟩
                  have S2 : Hid (St w w2 lb sb lc n L E) := SY.out.later hb2
                  have HJ2 : Hid (∀ j', j' < j + 1 → j' ≠ q → inP (L[q]?.getD ⟨#[]⟩) (L[j']?.getD ⟨#[]⟩) = false) := by
                    intro j' h1 h2
                    by_cases h3 : j' = j
                    · rw [h3]; exact HBB.out
                    · exact HJ.out j' (by omega) h2
                  clear hb2
                  go_wp2_with fail
                  go_roundg g2
                  case measure => omega
                  case rel => exact ⟨j + 1, rfl, rfl, by omega, by first | rfl | simp, S2, HJ2⟩
                | true =>
                  go_wp2_with fail
                  go_must (go_at_call 32)
                  refine WI.out.mono ?_
                  rintro e w2 ⟨rfl, hb2⟩
                  have S2 : Hid (St w w2 lb sb lc n L E) := SY.out.later hb2
                  have HE2 : Hid (lea q (L.eraseIdx q) = lea l.length l) := by
                    show _ = _
                    rw [← HE.out, lea, lies_yes L q j (by have := HM.out; omega) HXJ.out.2 HBB.out]
                    rfl
                  have DL : Hid (Calls Try.prog 39 #[.slice (some ⟨lb, 0, none⟩) m lc, .int .i64 q, .int .i64 ((q : Int) + 1)] w2 fun e w' => e = .returned (.slice (some ⟨lb, 0, none⟩) (m - 1) lc) ∧ ∃ q1, w' = Sort.putRow encStr (Sort.ahead w2 q1) lb 0 ((L.map unB).take q ++ (L.map unB).drop (q + 1) ++ [[]]).toArray) := by
                    have := del_left S2.out q (by have := HM.out; omega)
                    rw [HM.out] at this
                    exact this
                  clear hb2
                  go_wp2_with fail
                  go_must (go_at_call 39)
                  refine DL.out.mono ?_
                  rintro e w3 ⟨rfl, q1, hw3⟩
                  have DS : Hid (Calls Try.prog 40 #[.slice (some ⟨sb, 0, none⟩) m n, .int .i64 q, .int .i64 ((q : Int) + 1)] w3 fun e w' => e = .returned (.slice (some ⟨sb, 0, none⟩) (m - 1) n) ∧ Hid (St w w' lb sb lc n (L.eraseIdx q) (E.eraseIdx q))) := by
                    have hH : Sort.Holds encSl w3 sb 0 E.toArray := by rw [hw3]; exact holds_put _ _ S2.out.hs _ _ _ (Ne.symm S2.out.ne)
                    have := del_sets w3 hH S2.out q (by have := HM.out; omega)
                    rw [HM.out] at this
                    refine this.mono ?_
                    rintro e w4 ⟨he, q2, hw4⟩
                    exact ⟨he, S2.out.del q q1 q2 (by have := HM.out; omega) [[]] [(none, 0, 0)] w3 w4 hw3 rfl hw4 rfl⟩
                  clear hw3
                  go_wp2_with fail
                  go_must (go_at_call 40)
                  refine DS.out.mono ?_
                  rintro e w4 ⟨rfl, S4⟩
                  have HLE : Hid ((L.eraseIdx q).length = m - 1) := by
                    show _ = _
                    rw [List.length_eraseIdx, HM.out]
                    rw [if_pos (by omega)]
                  go_wp2_with fail
                  go_roundg q
                  case measure => omega
                  case rel => exact ⟨L.eraseIdx q, E.eraseIdx q, by rw [HLE.out], by rw [HLE.out], by first | rfl | simp, by have := HLE.out; omega, by have := HLE.out; omega, S4, HE2⟩
set_option maxRecDepth 100000 in
set_option maxHeartbeats 1000000 in
theorem least_none (v : Value) (w : World) (R : Row w v []) : Calls Try.prog 16 #[v] w fun e w' => ∃ v', e = .returned v' ∧ Row w' v' [] ∧ Below w.heap.size w w' := by
  obtain ⟨a, cap, rfl⟩ := R.nil
  obtain ⟨i0, hi, hz0, hz1, hz2⟩ : ∃ i0, Try.prog.info? 27 = some i0 ∧ i0.zero = some (.slice none 0 0) ∧ i0.size = 1 ∧ i0.bytes = 24 := ⟨_, rfl, rfl, rfl, rfl⟩
  have CL : Hid (Calls Try.prog 38 #[.slice a 0 cap] w fun e w' => ∃ a2 c2, e = .returned (.slice a2 0 c2) ∧ Below w.heap.size w w') := by
    cases a with
    | none =>
      refine (Try.slices_Clone_string_nil 0 cap w).mono ?_
      rintro e w' ⟨rfl, rfl⟩
      exact ⟨none, 0, rfl, Below.refl _ _⟩
    | some a =>
      refine (Try.slices_Clone_string_zero a cap w).mono ?_
      rintro e w' ⟨v', rfl, ho, hv, hb⟩
      rcases ho.2 with ⟨rfl, _⟩ | ⟨g', cap', cur, rfl, _⟩
      · exact ⟨_, _, rfl, hb⟩
      · exact ⟨_, _, rfl, hb⟩
  have MK : Hid (∀ w1 : World, (Instr.makeSlice 42 (.int .i64 0) (.int .i64 0)).run Try.prog w1 = .ok (.slice (some ⟨w1.heap.size, 0, none⟩) 0 0) (w1.alloc (.cells (madeCells #[.slice none 0 0] 0) 27))) := by
    intro w1
    have := run_make (P := Try.prog) w1 42 27 i0 (.slice none 0 0) Try.underlying42 hi hz0 .i64 .i64 0 0 (by omega) (by omega) (by rw [hz2]; omega) (by omega)
    rw [hz1] at this
    rw [show (Value.slice none 0 0).cells = #[Value.slice none 0 0] from rfl] at this
    simpa using this
  clear R hi hz0 hz1 hz2
  go_enter Try.func16, Try.ntmps16
  go_wp2_with fail
  go_step3
  go_wp2_with fail
  go_must (go_at_call 38)
  refine CL.out.mono ?_
  rintro e w1 ⟨a2, c2, rfl, hb⟩
  have B1 : Hid (Below w.heap.size w (w1.alloc (.cells (madeCells #[.slice none 0 0] 0) 27))) := hb.alloc hb.size _
  have hmk := MK.out w1
  clear hb
  obtain ⟨sb, hsb⟩ : ∃ sb, w1.heap.size = sb := ⟨_, rfl⟩
  rw [hsb] at hmk
  go_wp2_with fail
  clear hmk
  try rw [hsb]
  clear hsb
  go_loopg [17] 0 (fun gk s17 wx => s17 = .int .i64 0 ∧ Hid (Below w.heap.size w wx))
  case atStart => exact ⟨rfl, B1⟩
  case round =>
    obtain ⟨rfl, B2⟩ := hrel
    go_wp2_with fail
    go_step3
    go_wp2_with fail
    go_loopg [3, 4, 7] 0 (fun gk s3 s4 s7 wx => s3 = .slice a2 0 c2 ∧ s7 = .int .i64 (-1) ∧ Hid (Below w.heap.size w wx))
    case atStart => exact ⟨rfl, rfl, B2⟩
    case round =>
      obtain ⟨rfl, rfl, B3⟩ := hrel
      go_wp2_with fail
      try rw [Exit.noGoto_ret]
      go_ret
      exact ⟨_, rfl, ⟨_, _, _, rfl, rfl, Nat.zero_le _, fun h => absurd rfl h⟩, B3.out⟩
/-- Least of a list. -/
theorem least_any (l : List ByteArray) (hl : l.length ≤ 1000) (v : Value) (w : World) (R : Row w v l) : Calls Try.prog 16 #[v] w fun e w' => ∃ v', e = .returned v' ∧ Row w' v' (lea l.length l) ∧ Below w.heap.size w w' := by
  cases l with
  | nil => exact least_none v w R
  | cons x r => exact least_go (x :: r) (by simp) hl v w R
end Go.Proofs.Ytglnldopnoafoaa
