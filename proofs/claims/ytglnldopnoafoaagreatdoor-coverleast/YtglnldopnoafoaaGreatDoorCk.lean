import Derived.Test.YtglnldopnoafoaaGreatDoorWo
import Derived.Deep.LoopGhost
import Derived.Test.YtglnldopnoafoaaGreatDoorCm
namespace Go.Proofs.YtglnldopnoafoaaGreatDoor
open Go Go.RowKit
set_option linter.unusedSimpArgs false
set_option linter.unusedVariables false

theorem St.row {w0 w : World} {lb sb lc sc : Nat} {L : List ByteArray} {D : List Sx} (h : St w0 w lb sb lc sc L D) : Row w (.slice (some ⟨lb, 0, none⟩) L.length lc) L := by
  refine ⟨_, _, _, rfl, rfl, h.lc1, fun _ => ⟨lb, 0, rfl, h.l1, fun k x hk => ?_⟩⟩
  have hk' := (List.getElem?_eq_some_iff.1 hk).1
  rw [(h.hl k (by simpa using hk')).1]
  have : L[k] = x := (List.getElem?_eq_some_iff.1 hk).2
  simp [hk', this]
  exact mk_un x
theorem St.own {w0 w : World} {lb sb lc sc : Nat} {L : List ByteArray} {D : List Sx} (h : St w0 w lb sb lc sc L D) : w.ownsRow w0.heap.size 9 1 (.slice (some ⟨lb, 0, none⟩) L.length lc) L.length (L.map Value.string) := by
  obtain ⟨cur, h1, h2⟩ := h.bx
  have h3 := h.lc1
  refine ⟨by simp, .inr ⟨lb, lc, cur, rfl, h.l0, h1, h3, h.lc2, by rw [Nat.mul_one]; exact h2, ?_⟩⟩
  apply List.ext_getElem
  · simp
    omega
  · intro i q1 q2
    have hi : i < L.length := by simpa using q2
    have := (h.hl i (by simpa using hi)).1
    rw [Nat.zero_add] at this
    have e : cur[i]? = some (Value.string L[i]) := by
      have h4 : w.cell? ⟨lb, i, none⟩ = cur[i]? := by simp [World.cell?, h1]
      rw [h4] at this
      rw [this]
      simp [hi]
      exact mk_un _
    have hc : i < cur.size := by omega
    rw [Array.getElem?_eq_getElem hc] at e
    simpa using e
theorem lies_no (L : List ByteArray) (i : Nat) (h : ∀ j, j < L.length → j ≠ i → inP (L[i]?.getD ⟨#[]⟩) (L[j]?.getD ⟨#[]⟩) = false) : lies L i = false := by
  unfold lies
  rw [List.any_eq_false]
  intro j hj
  simp only [List.mem_range] at hj
  by_cases e : j = i
  · simp [e]
  · simp [e, h j hj e]
theorem lies_yes (L : List ByteArray) (i j : Nat) (hj : j < L.length) (hne : j ≠ i) (h : inP (L[i]?.getD ⟨#[]⟩) (L[j]?.getD ⟨#[]⟩) = true) : lies L i = true := by
  unfold lies
  rw [List.any_eq_true]
  exact ⟨j, by simpa using hj, by simp [hne, h]⟩
/-- The first state: a copy of the list, and as many nils. -/
theorem Sf.first {w w1 : World} {lb lc : Nat} {l : List ByteArray} (hown : w1.ownsRow w.heap.size 9 1 (.slice (some ⟨lb, 0, none⟩) l.length lc) l.length (l.map Value.string)) (hb : Below w.heap.size w w1) (hl : l.length ≤ 1000) : Sf w (w1.alloc (.cells (madeCells #[.slice none 0 0] l.length) 22)) lb w1.heap.size lc l (List.replicate l.length (none, 0, 0)) 0 := by
  have hlt := hown.lt lb rfl
  have hcap : l.length ≤ lc ∧ lc ≤ maxLen := by
    rcases hown.2 with ⟨e, _⟩ | ⟨g', cap', cur, e, _, _, hc, hm, _⟩
    · cases e
    · simp only [Value.slice.injEq] at e
      rw [e.2.2]; exact ⟨hc, hm⟩
  have hbx : Bx (w1.alloc (.cells (madeCells #[.slice none 0 0] l.length) 22)) lb lc := by
    rcases hown.2 with ⟨e, _⟩ | ⟨g', cap', cur, e, _, h1, _, _, h2, _⟩
    · cases e
    · simp only [Value.slice.injEq, Option.some.injEq, Addr.mk.injEq] at e
      obtain ⟨⟨rfl, -, -⟩, -, rfl⟩ := e
      exact ⟨cur, (Below.heap_alloc _ _ _ hlt.2).trans h1, by rw [Nat.mul_one] at h2; exact h2⟩
  have b2 : Below w1.heap.size w1 (w1.alloc (.cells (madeCells #[.slice none 0 0] l.length) 22)) := (Below.refl _ _).alloc (Nat.le_refl _) _
  have hH : Sort.Holds encStr w1 lb 0 (l.map unB).toArray := by
    have : (l.map Value.string) = (((l.map unB).map mkB).map Value.string) := by
      rw [List.map_map, List.map_map]
      exact List.map_congr_left fun x _ => by simp [mk_un]
    rw [this] at hown
    have h3 := holds_own (n := l.length) hown
    exact h3
  refine ⟨hb.trans (b2.mono hb.size), hlt.1, by simp; omega, hb.size, by simp, by omega, holds_below _ hH b2 hlt.2, ?_, by simp, hcap.1, by have := hcap.2; unfold maxLen at this; omega, by omega, fun j x d hj => absurd hj (Nat.not_lt_zero _), hbx⟩
  intro j hj
  have hj' : j < l.length := by simpa using hj
  constructor
  · rw [World.cell?_alloc_at _ _ _ _ rfl]
    rw [Array.getElem?_eq_getElem (by rw [size_madeCells]; omega)]
    simp [madeCells, hj', encSl, Nat.mod_one]
  · rw [World.frozen?_alloc_at _ _ _ _ rfl]
set_option maxRecDepth 100000 in
set_option maxHeartbeats 4000000 in
theorem least_go (l : List ByteArray) (hne : l ≠ []) (hl : l.length ≤ 1000) (v : Value) (w : World) (R : Row w v l) : Calls Tryz.prog 8 #[v] w fun e w' => ∃ v', e = .returned v' ∧ w'.ownsRow w.heap.size 9 1 v' (lea l.length l).length ((lea l.length l).map Value.string) ∧ Below w.heap.size w w' := by
  obtain ⟨a, n, cap, rfl, hn, hc, hx⟩ := R
  obtain ⟨g, o, rfl, hg, hk⟩ := hx hne
  obtain ⟨i0, hi, hz0, hz1, hz2⟩ : ∃ i0, Tryz.prog.info? 22 = some i0 ∧ i0.zero = some (.slice none 0 0) ∧ i0.size = 1 ∧ i0.bytes = 24 := ⟨_, rfl, rfl, rfl, rfl⟩
  have hpos : 0 < l.length := List.length_pos_iff.2 hne
  have CL : Hid (Calls Tryz.prog 16 #[.slice (some ⟨g, o, none⟩) n cap] w fun e w' => ∃ lb lc, e = .returned (.slice (some ⟨lb, 0, none⟩) n lc) ∧ w'.ownsRow w.heap.size 9 1 (.slice (some ⟨lb, 0, none⟩) n lc) n (l.map Value.string) ∧ Below w.heap.size w w') := by
    refine (Tryz.slices_Clone_string g o n cap l w (by omega) (by omega) (fun j hj => by rw [hk j l[j] (by simp [hj])]; simp [hj])).mono ?_
    rintro e w' ⟨v', rfl, ho, hv, hb⟩
    rw [List.take_of_length_le (by omega)] at ho
    obtain ⟨lb, lc, rfl⟩ : ∃ lb lc, v' = .slice (some ⟨lb, 0, none⟩) n lc := by
      obtain ⟨m, hm⟩ : ∃ m, n = m + 1 := ⟨n - 1, by omega⟩
      subst hm
      exact ownsRow_succ ho
    exact ⟨lb, lc, rfl, ho, hb⟩
  have MK : Hid (∀ w1 : World, (Instr.makeSlice 31 (.int .i64 (n : Int)) (.int .i64 (n : Int))).run Tryz.prog w1 = .ok (.slice (some ⟨w1.heap.size, 0, none⟩) n n) (w1.alloc (.cells (madeCells #[.slice none 0 0] n) 22))) := by
    intro w1
    have := run_make (P := Tryz.prog) w1 31 22 i0 (.slice none 0 0) Tryz.underlying31 hi hz0 .i64 .i64 n n (by omega) (by omega) (by rw [hz2]; omega) (by omega)
    rw [hz1] at this
    rw [show (Value.slice none 0 0).cells = #[Value.slice none 0 0] from rfl] at this
    simpa using this
  have HC : Hid (∀ w1, Below w.heap.size w w1 → ∀ j x, l[j]? = some x → w1.cell? ⟨g, o + j, none⟩ = some (.string x)) := fun w1 hb j x hj => (hb.cell (p := ⟨g, o + j, none⟩) hg).trans (hk j x hj)
  have HNL : Hid (n = l.length ∧ n ≤ 1000 ∧ n ≤ cap ∧ 0 < n) := ⟨hn, by omega, hc, by omega⟩
  clear hi hz0 hz1 hz2 hk hx hg hpos hn hc hl hne
  go_enter Tryz.func8, Tryz.ntmps8
  go_wp2_with fail
  go_step3
  go_wp2_with fail
  go_must (go_at_call 16)
  refine CL.out.mono ?_
  rintro e w1 ⟨lb, lc, rfl, ho, hb⟩
  have S0 : Hid (Sf w (w1.alloc (.cells (madeCells #[.slice none 0 0] n) 22)) lb w1.heap.size lc l (List.replicate l.length (none, 0, 0)) 0) := by
    have h1 := HNL.out
    rw [h1.1] at ho ⊢
    exact Sf.first ho hb (by omega)
  have hmk := MK.out w1
  clear ho hb CL MK
  obtain ⟨sb, hsb⟩ : ∃ sb, w1.heap.size = sb := ⟨_, rfl⟩
  rw [hsb] at S0 hmk
  go_wp2_with fail
  clear hmk
  try rw [hsb]
  clear hsb
  go_loopg [17] n (fun gk s17 wx => ∃ (j : Nat) (D : List Sx), j + gk = n ∧ s17 = .int .i64 j ∧ Hid (Sf w wx lb sb lc l D j))
  case atStart => exact ⟨0, _, by omega, rfl, S0⟩
  case round =>
    obtain ⟨j, D, hj, rfl, SJ⟩ := hrel
    cases gk with
    | succ gk =>
      have hjz : (j : Int) < (n : Int) := by omega
      have hj0 : (0 : Int) ≤ (j : Int) := by omega
      obtain ⟨x, hx⟩ : ∃ x, l[j]? = some x := ⟨_, List.getElem?_eq_getElem (by have := HNL.out; omega)⟩
      have HX : Hid (l[j]? = some x) := hx
      have hc1 := HC.out wr SJ.out.bel j x hx
      clear hx
      have hw1 : IntKind.i64.wrap ((j : Int) + 1) = (j : Int) + 1 := by rw [IntKind.wrap_i64]; have := HNL.out; omega
      go_wp2_with fail
      go_must (go_at_call 17)
      refine (lvN_any x wr).mono ?_
      rintro e w2 ⟨v2, rfl, hr, hb, hv⟩
      have S2 := SJ.out.later hb
      have hgn : ∀ g, v2.ownBlock = some g → g ≠ lb ∧ g ≠ sb := fun g hg => by
        have h1 := hv g hg
        have h2 := SJ.out.l1
        have h3 := SJ.out.s1
        omega
      have hr2 := hr
      obtain ⟨a2, k2, c2, hv2, -⟩ := hr
      subst hv2
      have S3 : Hid (Sf w (w2.setCell ⟨sb, j, none⟩ (.slice a2 k2 c2)) lb sb lc l (D.set j (a2, k2, c2)) (j + 1)) := S2.store x (a2, k2, c2) HX.out hr2 hgn
      have hjD : j < D.length := by have := S2.len; have := HNL.out; omega
      obtain ⟨dv, hcs⟩ : ∃ dv, w2.cell? ⟨sb, j, none⟩ = some dv := by
        have := (S2.hs j (by simpa using hjD)).1
        rw [Nat.zero_add] at this
        exact ⟨_, this⟩
      have hfs : w2.frozen? ⟨sb, j, none⟩ = false := by
        have := (S2.hs j (by simpa using hjD)).2
        rw [Nat.zero_add] at this
        exact this
      clear hr2 hb hv S2 hgn hjD SJ
      go_wp2_with fail
      go_roundg gk
      case measure => omega
      case rel => exact ⟨j + 1, _, by omega, by first | rfl | simp, S3⟩
    | zero =>
      have hjz : ¬ (j : Int) < (n : Int) := by omega
      have T0 : Hid (St w wr lb sb lc n l D) := by
        have h1 := HNL.out
        have h2 : j = l.length := by omega
        have := SJ.out
        rw [h2] at this
        rw [h1.1]
        exact this.whole
      clear SJ
      go_wp2_with fail
      go_step3
      have hwn : IntKind.i64.wrap ((n : Int) - 1) = (n : Int) - 1 := by rw [IntKind.wrap_i64]; have := HNL.out; omega
      go_wp2_with fail
      have HL0 : Hid (n ≤ 1000) := HNL.out.2.1
      go_loopg [3, 4, 7] n (fun gk s3 s4 s7 wx => ∃ (L : List ByteArray) (D : List Sx), s3 = .slice (some ⟨lb, 0, none⟩) L.length lc ∧ s4 = .slice (some ⟨sb, 0, none⟩) L.length n ∧ s7 = .int .i64 ((gk : Int) - 1) ∧ gk ≤ L.length ∧ L.length ≤ n ∧ Hid (St w wx lb sb lc n L D) ∧ Hid (lea gk L = lea l.length l))
      case atStart =>
        have h1 := HNL.out
        exact ⟨l, D, by rw [h1.1], by rw [← h1.1], rfl, by omega, by omega, T0, by show _ = _; rw [h1.1]⟩
      case round =>
        obtain ⟨L, E, rfl, rfl, rfl, hgL, hLn, SL, HE⟩ := hrel
        obtain ⟨m, hm⟩ : ∃ m, L.length = m := ⟨_, rfl⟩
        rw [hm] at hgL hLn ⊢
        have HM : Hid (L.length = m) := hm
        clear hm
        cases gk with
        | zero =>
          have hz : ¬ (0 : Int) ≤ ((0 : Nat) : Int) - 1 := by omega
          have RR : Hid (wr.ownsRow w.heap.size 9 1 (.slice (some ⟨lb, 0, none⟩) m lc) (lea l.length l).length ((lea l.length l).map Value.string)) := by
            have h1 := SL.out.own
            have h2 : L = lea l.length l := HE.out
            rw [← h2, ← HM.out]
            exact h1
          have BB : Hid (Below w.heap.size w wr) := SL.out.bel
          go_wp2_with fail
          try rw [Exit.noGoto_ret]
          go_ret
          exact ⟨_, rfl, RR.out, BB.out⟩
        | succ q =>
          have eq1 : (((q + 1 : Nat) : Int) - 1) = (q : Int) := by omega
          rw [eq1]
          have hq0 : (0 : Int) ≤ (q : Int) := by omega
          have hq1 : (q : Int) < (m : Int) := by omega
          have hwq : IntKind.i64.wrap ((q : Int) - 1) = (q : Int) - 1 := by rw [IntKind.wrap_i64]; have := HL0.out; omega
          have hwp : IntKind.i64.wrap ((q : Int) + 1) = (q : Int) + 1 := by rw [IntKind.wrap_i64]; have := HL0.out; omega
          obtain ⟨xq, hxq⟩ : ∃ x, L[q]? = some x := ⟨_, List.getElem?_eq_getElem (by have := HM.out; omega)⟩
          obtain ⟨dq, hdq⟩ : ∃ d, E[q]? = some d := ⟨_, List.getElem?_eq_getElem (by have := HM.out; have := SL.out.len; omega)⟩
          have HXQ : Hid (L[q]? = some xq ∧ E[q]? = some dq) := ⟨hxq, hdq⟩
          clear hxq hdq
          go_wp2_with fail
          go_loopg [3, 4, 37] m (fun g2 s3 s4 s37 wy => ∃ j : Nat, s3 = .slice (some ⟨lb, 0, none⟩) m lc ∧ s4 = .slice (some ⟨sb, 0, none⟩) m n ∧ j + g2 = m ∧ s37 = .int .i64 j ∧ Hid (St w wy lb sb lc n L E) ∧ Hid (∀ j', j' < j → j' ≠ q → inP (L[q]?.getD ⟨#[]⟩) (L[j']?.getD ⟨#[]⟩) = false))
          case atStart => exact ⟨0, rfl, rfl, by omega, rfl, SL, fun j' h => absurd h (Nat.not_lt_zero _)⟩
          case round =>
            obtain ⟨j, rfl, rfl, hjg, rfl, SY, HJ⟩ := hrel
            cases gk with
            | zero =>
              have hjz : ¬ ((j : Int) < (m : Int)) := by omega
              have HE2 : Hid (lea q L = lea l.length l) := by
                show _ = _
                rw [← HE.out, lea, lies_no L q (fun j' h1 h2 => HJ.out j' (by have := HM.out; omega) h2)]
                rfl
              go_wp2_with fail
              go_roundg q
              case measure => omega
              case rel => exact ⟨L, E, by rw [HM.out], by rw [HM.out], by first | rfl | simp, by have := HM.out; omega, by have := HM.out; omega, SY, HE2⟩
            | succ g2 =>
              have hjz : (j : Int) < (m : Int) := by omega
              have hj0 : (0 : Int) ≤ (j : Int) := by omega
              have hwj : IntKind.i64.wrap ((j : Int) + 1) = (j : Int) + 1 := by rw [IntKind.wrap_i64]; have := HL0.out; omega
              obtain ⟨xj, hxj⟩ : ∃ x, L[j]? = some x := ⟨_, List.getElem?_eq_getElem (by have := HM.out; omega)⟩
              obtain ⟨dj, hdj⟩ : ∃ d, E[j]? = some d := ⟨_, List.getElem?_eq_getElem (by have := HM.out; have := SL.out.len; omega)⟩
              have cj := SY.out.cellS j dj hdj
              have cq := SY.out.cellS q dq HXQ.out.2
              by_cases hjq : j = q
              · have hne : ((j : Int) != (q : Int)) = false := by simp [hjq]
                have HJ2 : Hid (∀ j', j' < j + 1 → j' ≠ q → inP (L[q]?.getD ⟨#[]⟩) (L[j']?.getD ⟨#[]⟩) = false) := by
                  intro j' h1 h2
                  exact HJ.out j' (by omega) h2
                clear hjq hxj hdj
                go_wp2_with fail
                go_roundg g2
                case measure => omega
                case rel => exact ⟨j + 1, rfl, rfl, by omega, by first | rfl | simp, SY, HJ2⟩
              · have hne : ((j : Int) != (q : Int)) = true := by simp; omega
                have WI : Hid (Calls Tryz.prog 18 #[.slice dq.1 dq.2.1 dq.2.2, .slice dj.1 dj.2.1 dj.2.2] wr fun e w' => e = .returned (.bool (inP xq xj)) ∧ Below wr.heap.size wr w') := by
                  have h1 := (SY.out.rows q xq dq HXQ.out.1 HXQ.out.2).1
                  have h2 := (SY.out.rows j xj dj hxj hdj).1
                  have := within_row ((lvO xq).map mkB) ((lvO xj).map mkB) (by have := lvO_len xq; simp; omega) _ _ wr h1 h2
                  rw [map_un_mk, map_un_mk] at this
                  have e0 : inP xq xj = (outL (lvO xq) (lvO xj)).isNone := by unfold inP outP; cases outL (lvO xq) (lvO xj) <;> rfl
                  rw [e0]
                  exact this
                have HXJ : Hid (L[j]? = some xj ∧ ¬ j = q) := ⟨hxj, hjq⟩
                obtain ⟨b, hb⟩ : ∃ b, inP xq xj = b := ⟨_, rfl⟩
                have HBB : Hid (inP (L[q]?.getD ⟨#[]⟩) (L[j]?.getD ⟨#[]⟩) = b) := by show _ = _; rw [HXQ.out.1, hxj]; exact hb
                rw [hb] at WI
                clear hxj hdj hjq hb
                cases b with
                | false =>
                  go_wp2_with fail
                  go_must (go_at_call 18)
                  refine WI.out.mono ?_
                  rintro e w2 ⟨rfl, hb2⟩
                  have S2 : Hid (St w w2 lb sb lc n L E) := SY.out.later hb2
                  have HJ2 : Hid (∀ j', j' < j + 1 → j' ≠ q → inP (L[q]?.getD ⟨#[]⟩) (L[j']?.getD ⟨#[]⟩) = false) := by
                    intro j' h1 h2
                    by_cases h3 : j' = j
                    · rw [h3]; exact HBB.out
                    · exact HJ.out j' (by omega) h2
                  clear hb2
                  go_wp2_with fail
                  go_roundg g2
                  case measure => omega
                  case rel => exact ⟨j + 1, rfl, rfl, by omega, by first | rfl | simp, S2, HJ2⟩
                | true =>
                  go_wp2_with fail
                  go_must (go_at_call 18)
                  refine WI.out.mono ?_
                  rintro e w2 ⟨rfl, hb2⟩
                  have S2 : Hid (St w w2 lb sb lc n L E) := SY.out.later hb2
                  have HE2 : Hid (lea q (L.eraseIdx q) = lea l.length l) := by
                    show _ = _
                    rw [← HE.out, lea, lies_yes L q j (by have := HM.out; omega) HXJ.out.2 HBB.out]
                    rfl
                  have DL : Hid (Calls Tryz.prog 19 #[.slice (some ⟨lb, 0, none⟩) m lc, .int .i64 q, .int .i64 ((q : Int) + 1)] w2 fun e w' => e = .returned (.slice (some ⟨lb, 0, none⟩) (m - 1) lc) ∧ ∃ q1, w' = Sort.putRow encStr (Sort.ahead w2 q1) lb 0 ((L.map unB).take q ++ (L.map unB).drop (q + 1) ++ [[]]).toArray) := by
                    have := del_left S2.out q (by have := HM.out; omega)
                    rw [HM.out] at this
                    exact this
                  clear hb2
                  go_wp2_with fail
                  go_must (go_at_call 19)
                  refine DL.out.mono ?_
                  rintro e w3 ⟨rfl, q1, hw3⟩
                  have DS : Hid (Calls Tryz.prog 20 #[.slice (some ⟨sb, 0, none⟩) m n, .int .i64 q, .int .i64 ((q : Int) + 1)] w3 fun e w' => e = .returned (.slice (some ⟨sb, 0, none⟩) (m - 1) n) ∧ Hid (St w w' lb sb lc n (L.eraseIdx q) (E.eraseIdx q))) := by
                    have hH : Sort.Holds encSl w3 sb 0 E.toArray := by rw [hw3]; exact holds_put _ _ S2.out.hs _ _ _ (Ne.symm S2.out.ne)
                    have := del_sets w3 hH S2.out q (by have := HM.out; omega)
                    rw [HM.out] at this
                    refine this.mono ?_
                    rintro e w4 ⟨he, q2, hw4⟩
                    exact ⟨he, S2.out.del q q1 q2 (by have := HM.out; omega) [[]] [(none, 0, 0)] w3 w4 hw3 rfl hw4 rfl⟩
                  clear hw3
                  go_wp2_with fail
                  go_must (go_at_call 20)
                  refine DS.out.mono ?_
                  rintro e w4 ⟨rfl, S4⟩
                  have HLE : Hid ((L.eraseIdx q).length = m - 1) := by
                    show _ = _
                    rw [List.length_eraseIdx, HM.out]
                    rw [if_pos (by omega)]
                  go_wp2_with fail
                  go_roundg q
                  case measure => omega
                  case rel => exact ⟨L.eraseIdx q, E.eraseIdx q, by rw [HLE.out], by rw [HLE.out], by first | rfl | simp, by have := HLE.out; omega, by have := HLE.out; omega, S4, HE2⟩
set_option maxRecDepth 100000 in
set_option maxHeartbeats 1000000 in
theorem least_none (v : Value) (w : World) (R : Row w v []) : Calls Tryz.prog 8 #[v] w fun e w' => ∃ v', e = .returned v' ∧ w'.ownsRow w.heap.size 9 1 v' 0 [] ∧ Below w.heap.size w w' := by
  obtain ⟨a, cap, rfl⟩ := R.nil
  obtain ⟨i0, hi, hz0, hz1, hz2⟩ : ∃ i0, Tryz.prog.info? 22 = some i0 ∧ i0.zero = some (.slice none 0 0) ∧ i0.size = 1 ∧ i0.bytes = 24 := ⟨_, rfl, rfl, rfl, rfl⟩
  have CL : Hid (Calls Tryz.prog 16 #[.slice a 0 cap] w fun e w' => ∃ a2 c2, e = .returned (.slice a2 0 c2) ∧ w'.ownsRow w.heap.size 9 1 (.slice a2 0 c2) 0 [] ∧ Below w.heap.size w w') := by
    cases a with
    | none =>
      refine (Tryz.slices_Clone_string_nil 0 cap w).mono ?_
      rintro e w' ⟨rfl, rfl⟩
      exact ⟨none, 0, rfl, World.ownsRow_nil _ _ _ _, Below.refl _ _⟩
    | some a =>
      refine (Tryz.slices_Clone_string_zero a cap w).mono ?_
      rintro e w' ⟨v', rfl, ho, hv, hb⟩
      have ho2 := ho
      rcases ho.2 with ⟨rfl, _⟩ | ⟨g', cap', cur, rfl, _⟩
      · exact ⟨_, _, rfl, ho2, hb⟩
      · exact ⟨_, _, rfl, ho2, hb⟩
  have MK : Hid (∀ w1 : World, (Instr.makeSlice 31 (.int .i64 0) (.int .i64 0)).run Tryz.prog w1 = .ok (.slice (some ⟨w1.heap.size, 0, none⟩) 0 0) (w1.alloc (.cells (madeCells #[.slice none 0 0] 0) 22))) := by
    intro w1
    have := run_make (P := Tryz.prog) w1 31 22 i0 (.slice none 0 0) Tryz.underlying31 hi hz0 .i64 .i64 0 0 (by omega) (by omega) (by rw [hz2]; omega) (by omega)
    rw [hz1] at this
    rw [show (Value.slice none 0 0).cells = #[Value.slice none 0 0] from rfl] at this
    simpa using this
  clear R hi hz0 hz1 hz2
  go_enter Tryz.func8, Tryz.ntmps8
  go_wp2_with fail
  go_step3
  go_wp2_with fail
  go_must (go_at_call 16)
  refine CL.out.mono ?_
  rintro e w1 ⟨a2, c2, rfl, ho, hb⟩
  have B1 : Hid ((w1.alloc (.cells (madeCells #[.slice none 0 0] 0) 22)).ownsRow w.heap.size 9 1 (.slice a2 0 c2) 0 [] ∧ Below w.heap.size w (w1.alloc (.cells (madeCells #[.slice none 0 0] 0) 22))) := ⟨ho.alloc _, hb.alloc hb.size _⟩
  have hmk := MK.out w1
  clear hb ho
  obtain ⟨sb, hsb⟩ : ∃ sb, w1.heap.size = sb := ⟨_, rfl⟩
  rw [hsb] at hmk
  go_wp2_with fail
  clear hmk
  try rw [hsb]
  clear hsb
  go_loopg [17] 0 (fun gk s17 wx => s17 = .int .i64 0 ∧ Hid (wx.ownsRow w.heap.size 9 1 (.slice a2 0 c2) 0 [] ∧ Below w.heap.size w wx))
  case atStart => exact ⟨rfl, B1⟩
  case round =>
    obtain ⟨rfl, B2⟩ := hrel
    go_wp2_with fail
    go_step3
    go_wp2_with fail
    go_loopg [3, 4, 7] 0 (fun gk s3 s4 s7 wx => s3 = .slice a2 0 c2 ∧ s7 = .int .i64 (-1) ∧ Hid (wx.ownsRow w.heap.size 9 1 (.slice a2 0 c2) 0 [] ∧ Below w.heap.size w wx))
    case atStart => exact ⟨rfl, rfl, B2⟩
    case round =>
      obtain ⟨rfl, rfl, B3⟩ := hrel
      go_wp2_with fail
      try rw [Exit.noGoto_ret]
      go_ret
      exact ⟨_, rfl, B3.out⟩
/-- Least of a list: in memory of its own. -/
theorem least_own (l : List ByteArray) (hl : l.length ≤ 1000) (v : Value) (w : World) (R : Row w v l) : Calls Tryz.prog 8 #[v] w fun e w' => ∃ v', e = .returned v' ∧ w'.ownsRow w.heap.size 9 1 v' (lea l.length l).length ((lea l.length l).map Value.string) ∧ Below w.heap.size w w' := by
  cases l with
  | nil => exact least_none v w R
  | cons x r => exact least_go (x :: r) (by simp) hl v w R
end Go.Proofs.YtglnldopnoafoaaGreatDoor
namespace Go.Proofs.YtglnldopnoafoaaGreatDoor
open Go Go.RowKit
set_option linter.unusedSimpArgs false
set_option linter.unusedVariables false

theorem k1 : meetP ⟨#[97, 47, 43]⟩ ⟨#[43, 47, 98]⟩ = some [97, 47, 98] := by kernel_rfl
theorem k2 : meetP ⟨#[43]⟩ ⟨#[36, 97]⟩ = none := by kernel_rfl
theorem k3 : outP ⟨#[35]⟩ ⟨#[43, 47, 35]⟩ = none := by kernel_rfl
theorem k4 : outP ⟨#[97, 47, 35]⟩ ⟨#[97, 47, 43]⟩ = some [97] := by kernel_rfl
theorem k5 : lea 4 [⟨#[97, 47, 98]⟩, ⟨#[97, 47, 43]⟩, ⟨#[43, 47, 35]⟩, ⟨#[35]⟩] = [⟨#[43, 47, 35]⟩] := by kernel_rfl
theorem k6 : mch ⟨#[97, 47, 35]⟩ (mkB [97]) = true := by kernel_rfl
theorem k7 : mch ⟨#[97, 47, 43]⟩ (mkB [97]) = false := by kernel_rfl
end Go.Proofs.YtglnldopnoafoaaGreatDoor

namespace Go.Proofs.YtglnldopnoafoaaGreatDoor
open Go Go.RowKit
set_option linter.unusedSimpArgs false
set_option linter.unusedVariables false

theorem row_lit (w : World) (cs : Array Value) (xs : List ByteArray) (h : cs.toList = xs.map Value.string) : Row (w.alloc (.cells cs 9)) (.slice (some ⟨w.heap.size, 0, none⟩) xs.length xs.length) xs := by
  refine ⟨_, _, _, rfl, rfl, Nat.le_refl _, fun _ => ⟨w.heap.size, 0, rfl, by simp, fun k x hk => ?_⟩⟩
  rw [World.cell?_alloc_at _ _ _ _ rfl, Nat.zero_add, ← Array.getElem?_toList, h, List.getElem?_map, hk]
  rfl
end Go.Proofs.YtglnldopnoafoaaGreatDoor

namespace Go.Proofs.YtglnldopnoafoaaGreatDoor
open Go Go.RowKit
set_option linter.unusedSimpArgs false
set_option linter.unusedVariables false

end Go.Proofs.YtglnldopnoafoaaGreatDoor

namespace Go.Proofs.YtglnldopnoafoaaGreatDoor
open Go
set_option linter.unusedSimpArgs false
set_option linter.unusedVariables false

end Go.Proofs.YtglnldopnoafoaaGreatDoor

namespace Go.Proofs.YtglnldopnoafoaaGreatDoor
open Go Go.RowKit
set_option linter.unusedSimpArgs false
set_option linter.unusedVariables false

theorem rfc_any {f : ByteArray} (h : rfc f = 0) : lvAny (levels f) = false := by
  unfold rfc at h
  by_cases hc : ct f = 0
  · rw [if_pos hc] at h
    cases hl : lvAny (levels f) with
    | false => rfl
    | true => rw [hl] at h; cases h
  · rw [if_neg hc] at h; exact absurd h hc
theorem has_head (g : ByteArray) (c : UInt8) (t : Bs) (hg : unB g = c :: t) (hc : c = 43 ∨ c = 35) : hasS g = true := by
  refine (hsN_iff g g.size).2 ⟨0, ?_, ?_⟩
  · rw [← un_size, hg]; simp
  · rw [atB_un, hg]
    rcases hc with rfl | rfl
    · exact .inl rfl
    · exact .inr rfl
theorem first_sign (f g : ByteArray) (r : List ByteArray) (h : rfc f = 0) (hl : levels f = g :: r) (v : UInt8) (hv : v = 43 ∨ v = 35) : atB f 0 = v.toNat ↔ unB g = [v] := by
  have hs := levels_split f
  rw [hl, List.map_cons] at hs
  have hA := rfc_any h
  rw [hl] at hA
  have hX : lvX g (!r.isEmpty) = false := by
    simp only [lvAny, Bool.or_eq_false_iff] at hA
    exact hA.1
  have hpos := (rfc_zero h).2
  rw [← un_size] at hpos
  cases hu : unB f with
  | nil => rw [hu] at hpos; simp at hpos
  | cons c t =>
    have ha : atB f 0 = c.toNat := by rw [atB_un, hu]; rfl
    rw [ha, UInt8.toNat_inj]
    rw [hu] at hs
    by_cases h47 : c = 47
    · subst h47
      rw [split_slash] at hs
      have hg : unB g = [] := (List.cons.inj hs).1
      rw [hg]
      constructor
      · intro e; rcases hv with rfl | rfl <;> cases e
      · intro e; cases e
    · obtain ⟨p, q, e⟩ := split_some t
      rw [split_plain c t p q h47 e] at hs
      have hg : unB g = c :: p := (List.cons.inj hs).1
      rw [hg]
      constructor
      · intro e1
        subst e1
        have hh := has_head g c p hg hv
        have hsz : ¬ 1 < g.size := fun h1 => by simp [lvX, hh, h1] at hX
        rw [← un_size, hg] at hsz
        cases p with
        | nil => rfl
        | cons a b => simp at hsz
      · intro e1; exact (List.cons.inj e1).1

set_option maxRecDepth 100000 in
set_option maxHeartbeats 1000000 in
theorem rmatch_no (f t : ByteArray) (h : ¬ rfc f = 0 ∨ ¬ tcode t = 0) (w : World) : Calls Tryz.prog 149 #[.string f, .string t] w fun e w' => e = .returned (.bool false) ∧ Below w.heap.size w w' := by
  by_cases h1 : rfc f = 0
  · have h2 : (tcode t != 0) = true := by
      rcases h with h | h
      · exact absurd h1 h
      · simpa using h
    clear h
    go_enter Tryz.func149, Tryz.ntmps149
    go_wp2_with (first | (go_at_call 90; refine (rfilter_any f _).mono ?_; rintro e w1 ⟨rfl, hb⟩; have B1 : Hid (Below w.heap.size w w1) := hb; clear hb; rw [h1]) | (go_at_call 157; refine (rcheck_any t _).mono ?_; rintro e w2 ⟨rfl, hee⟩; obtain rfl := hee.symm; clear hee))
    go_ret
    exact ⟨rfl, B1.out⟩
  · have h2 : (rfc f != 0) = true := by simpa using h1
    clear h h1
    go_enter Tryz.func149, Tryz.ntmps149
    go_wp2_with (first | (go_at_call 90; refine (rfilter_any f _).mono ?_; rintro e w1 ⟨rfl, hb⟩; have B1 : Hid (Below w.heap.size w w1) := hb; clear hb) | fail)
    go_ret
    exact ⟨rfl, B1.out⟩

set_option maxRecDepth 100000 in
set_option maxHeartbeats 1000000 in
theorem rmatch_plus (f t : ByteArray) (h1 : rfc f = 0) (h2 : tcode t = 0) (h36 : atB t 0 = 36) (h43 : atB f 0 = 43) (w : World) : Calls Tryz.prog 149 #[.string f, .string t] w fun e w' => e = .returned (.bool (false)) ∧ Below w.heap.size w w' := by
  have hf := rfc_zero h1
  have ht := tcode_zero h2
  have HS : Hid (f.size ≤ 1000000 ∧ t.size ≤ 1000000) := ⟨by omega, by omega⟩
  have p0 : (0 : Int) < t.size := by omega
  have p0' : 0 < t.size := ht.2
  have s0 : (0 : Int) < f.size := by omega
  have s0' : 0 < f.size := hf.2
  have hat : atB t 0 = (t[0]'p0').toNat := atB_in t 0 p0'
  have has : atB f 0 = (f[0]'s0').toNat := atB_in f 0 s0'
  have q0 : (((t[0]'p0').toNat : Int) == 36) = true := by rw [← hat, h36]; rfl
  have q1 : (((f[0]'s0').toNat : Int) == 43) = true := by rw [← has, h43]; rfl
  clear hf ht hat has
  go_enter Tryz.func149, Tryz.ntmps149
  go_wp2_with (first | (go_at_call 90; refine (rfilter_any f _).mono ?_; rintro e w1 ⟨rfl, hb⟩; have B1 : Hid (Below w.heap.size w w1) := hb; clear hb; rw [h1]) | (go_at_call 157; refine (rcheck_any t _).mono ?_; rintro e w2 ⟨rfl, hee⟩; obtain rfl := hee.symm; clear hee; rw [h2]))
  go_ret
  exact ⟨rfl, B1.out⟩

set_option maxRecDepth 100000 in
set_option maxHeartbeats 1000000 in
theorem rmatch_hash (f t : ByteArray) (h1 : rfc f = 0) (h2 : tcode t = 0) (h36 : atB t 0 = 36) (h43 : ¬ atB f 0 = 43) (h35 : atB f 0 = 35) (w : World) : Calls Tryz.prog 149 #[.string f, .string t] w fun e w' => e = .returned (.bool (false)) ∧ Below w.heap.size w w' := by
  have hf := rfc_zero h1
  have ht := tcode_zero h2
  have HS : Hid (f.size ≤ 1000000 ∧ t.size ≤ 1000000) := ⟨by omega, by omega⟩
  have p0 : (0 : Int) < t.size := by omega
  have p0' : 0 < t.size := ht.2
  have s0 : (0 : Int) < f.size := by omega
  have s0' : 0 < f.size := hf.2
  have hat : atB t 0 = (t[0]'p0').toNat := atB_in t 0 p0'
  have has : atB f 0 = (f[0]'s0').toNat := atB_in f 0 s0'
  have q0 : (((t[0]'p0').toNat : Int) == 36) = true := by rw [← hat, h36]; rfl
  have q1 : (((f[0]'s0').toNat : Int) == 43) = false := by rw [← has, beq_eq_false_iff_ne]; omega
  have q2 : (((f[0]'s0').toNat : Int) == 35) = true := by rw [← has, h35]; rfl
  clear hf ht hat has
  go_enter Tryz.func149, Tryz.ntmps149
  go_wp2_with (first | (go_at_call 90; refine (rfilter_any f _).mono ?_; rintro e w1 ⟨rfl, hb⟩; have B1 : Hid (Below w.heap.size w w1) := hb; clear hb; rw [h1]) | (go_at_call 157; refine (rcheck_any t _).mono ?_; rintro e w2 ⟨rfl, hee⟩; obtain rfl := hee.symm; clear hee; rw [h2]))
  go_ret
  exact ⟨rfl, B1.out⟩

set_option maxRecDepth 100000 in
set_option maxHeartbeats 1000000 in
theorem rmatch_word (f t : ByteArray) (h1 : rfc f = 0) (h2 : tcode t = 0) (h36 : atB t 0 = 36) (h43 : ¬ atB f 0 = 43) (h35 : ¬ atB f 0 = 35) (w : World) : Calls Tryz.prog 149 #[.string f, .string t] w fun e w' => e = .returned (.bool (mt ((levels f).map unB) ((levels t).map unB))) ∧ Below w.heap.size w w' := by
  have hf := rfc_zero h1
  have ht := tcode_zero h2
  have HS : Hid (f.size ≤ 1000000 ∧ t.size ≤ 1000000) := ⟨by omega, by omega⟩
  have p0 : (0 : Int) < t.size := by omega
  have p0' : 0 < t.size := ht.2
  have s0 : (0 : Int) < f.size := by omega
  have s0' : 0 < f.size := hf.2
  have hat : atB t 0 = (t[0]'p0').toNat := atB_in t 0 p0'
  have has : atB f 0 = (f[0]'s0').toNat := atB_in f 0 s0'
  have q0 : (((t[0]'p0').toNat : Int) == 36) = true := by rw [← hat, h36]; rfl
  have q1 : (((f[0]'s0').toNat : Int) == 43) = false := by rw [← has, beq_eq_false_iff_ne]; omega
  have q2 : (((f[0]'s0').toNat : Int) == 35) = false := by rw [← has, beq_eq_false_iff_ne]; omega
  clear hf ht hat has
  go_enter Tryz.func149, Tryz.ntmps149
  go_wp2_with (first | (go_at_call 90; refine (rfilter_any f _).mono ?_; rintro e w1 ⟨rfl, hb⟩; have B1 : Hid (Below w.heap.size w w1) := hb; clear hb; rw [h1]) | (go_at_call 157; refine (rcheck_any t _).mono ?_; rintro e w2 ⟨rfl, hee⟩; obtain rfl := hee.symm; clear hee; rw [h2]))
  go_must (go_at_call 146)
  refine (rlevels_row f HS.out.1 _).mono ?_
  rintro e w3 ⟨v3, rfl, hr, hb⟩
  have R3 : Hid (Row w3 v3 (levels f)) := hr
  have B3 : Hid (Below w.heap.size w w3) := B1.out.trans (hb.mono B1.out.size)
  clear hb hr
  go_wp2_with fail
  go_must (go_at_call 146)
  refine (rlevels_row t HS.out.2 _).mono ?_
  rintro e w4 ⟨v4, rfl, hr, hb⟩
  have R4 : Hid (Row w4 v4 (levels t)) := hr
  have R5 : Hid (Row w4 v3 (levels f)) := R3.out.later hb
  have B4 : Hid (Below w.heap.size w w4) := B3.out.trans (hb.mono B3.out.size)
  clear hb hr
  go_wp2_with fail
  go_must (go_at_call 158)
  refine (goes_any _ _ _ _ _ R5.out R4.out (Nat.le_trans (levels_len f) (by have := HS.out; omega))).mono ?_
  rintro e w5 ⟨rfl, k5, hw5⟩
  have B5 : Hid (Below w.heap.size w w5) := by show Below _ _ _; rw [hw5]; exact below_drewN B4.out _
  clear hw5
  go_wp2_with fail
  go_ret
  exact ⟨rfl, B5.out⟩

set_option maxRecDepth 100000 in
set_option maxHeartbeats 1000000 in
theorem rmatch_open (f t : ByteArray) (h1 : rfc f = 0) (h2 : tcode t = 0) (h36 : ¬ atB t 0 = 36) (w : World) : Calls Tryz.prog 149 #[.string f, .string t] w fun e w' => e = .returned (.bool (mt ((levels f).map unB) ((levels t).map unB))) ∧ Below w.heap.size w w' := by
  have hf := rfc_zero h1
  have ht := tcode_zero h2
  have HS : Hid (f.size ≤ 1000000 ∧ t.size ≤ 1000000) := ⟨by omega, by omega⟩
  have p0 : (0 : Int) < t.size := by omega
  have p0' : 0 < t.size := ht.2
  have s0 : (0 : Int) < f.size := by omega
  have s0' : 0 < f.size := hf.2
  have hat : atB t 0 = (t[0]'p0').toNat := atB_in t 0 p0'
  have has : atB f 0 = (f[0]'s0').toNat := atB_in f 0 s0'
  have q0 : (((t[0]'p0').toNat : Int) == 36) = false := by rw [← hat, beq_eq_false_iff_ne]; omega
  clear hf ht hat has
  go_enter Tryz.func149, Tryz.ntmps149
  go_wp2_with (first | (go_at_call 90; refine (rfilter_any f _).mono ?_; rintro e w1 ⟨rfl, hb⟩; have B1 : Hid (Below w.heap.size w w1) := hb; clear hb; rw [h1]) | (go_at_call 157; refine (rcheck_any t _).mono ?_; rintro e w2 ⟨rfl, hee⟩; obtain rfl := hee.symm; clear hee; rw [h2]))
  go_must (go_at_call 146)
  refine (rlevels_row f HS.out.1 _).mono ?_
  rintro e w3 ⟨v3, rfl, hr, hb⟩
  have R3 : Hid (Row w3 v3 (levels f)) := hr
  have B3 : Hid (Below w.heap.size w w3) := B1.out.trans (hb.mono B1.out.size)
  clear hb hr
  go_wp2_with fail
  go_must (go_at_call 146)
  refine (rlevels_row t HS.out.2 _).mono ?_
  rintro e w4 ⟨v4, rfl, hr, hb⟩
  have R4 : Hid (Row w4 v4 (levels t)) := hr
  have R5 : Hid (Row w4 v3 (levels f)) := R3.out.later hb
  have B4 : Hid (Below w.heap.size w w4) := B3.out.trans (hb.mono B3.out.size)
  clear hb hr
  go_wp2_with fail
  go_must (go_at_call 158)
  refine (goes_any _ _ _ _ _ R5.out R4.out (Nat.le_trans (levels_len f) (by have := HS.out; omega))).mono ?_
  rintro e w5 ⟨rfl, k5, hw5⟩
  have B5 : Hid (Below w.heap.size w w5) := by show Below _ _ _; rw [hw5]; exact below_drewN B4.out _
  clear hw5
  go_wp2_with fail
  go_ret
  exact ⟨rfl, B5.out⟩

theorem rmatch_any (f t : ByteArray) (w : World) : Calls Tryz.prog 149 #[.string f, .string t] w fun e w' => e = .returned (.bool (mch f t)) ∧ Below w.heap.size w w' := by
  by_cases h1 : rfc f = 0
  · by_cases h2 : tcode t = 0
    · obtain ⟨g, r, hl, hs⟩ := levels_head f
      have e2 : (levels t).map unB = split (unB t) := levels_split t
      have e1 : (levels f).map unB = split (unB f) := levels_split f
      have f43 := first_sign f g r h1 hl 43 (.inl rfl)
      have f35 := first_sign f g r h1 hl 35 (.inr rfl)
      by_cases h36 : atB t 0 = 36
      · by_cases h43 : unB g = [43]
        · rw [show mch f t = false by simp [mch, h36, hs, hd0, h43]]
          exact rmatch_plus f t h1 h2 h36 (f43.2 h43) w
        · by_cases h35 : unB g = [35]
          · rw [show mch f t = false by simp [mch, h36, hs, hd0, h35]]
            exact rmatch_hash f t h1 h2 h36 (fun h => h43 (f43.1 h)) (f35.2 h35) w
          · have := rmatch_word f t h1 h2 h36 (fun h => h43 (f43.1 h)) (fun h => h35 (f35.1 h)) w
            rw [e1, e2] at this
            rw [show mch f t = mt (split (unB f)) (split (unB t)) by rw [mch, hs]; simp [h1, h2, hd0, h43, h35]]
            exact this
      · have := rmatch_open f t h1 h2 h36 w
        rw [e1, e2] at this
        rw [show mch f t = mt (split (unB f)) (split (unB t)) by simp [mch, h1, h2, h36]]
        exact this
    · rw [show mch f t = false by simp [mch, h2]]
      exact rmatch_no f t (.inr h2) w
  · rw [show mch f t = false by simp [mch, h1]]
    exact rmatch_no f t (.inl h1) w

end Go.Proofs.YtglnldopnoafoaaGreatDoor

