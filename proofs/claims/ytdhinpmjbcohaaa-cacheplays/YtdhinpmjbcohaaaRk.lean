import Derived.Test.YtdhinpmjbcohaaaRj
namespace Go.Proofs.Ytdhinpmjbcohaaa.Rf
open Go Go.RowKit
set_option linter.unusedSimpArgs false
set_option linter.unusedVariables false

set_option maxRecDepth 100000 in
set_option maxHeartbeats 2000000 in
/-- Are two lists of entries the same? -/
theorem same_any {w : World} {va vb : Value} {A B : List (Int × Int)} (ha : ER w va A) (hb : ER w vb B) (hl : A.length ≤ 1000000) : Calls Try.prog 42 #[va, vb] w fun r w' => r = .returned (.bool (decide (A = B))) ∧ ∃ m, w' = w.drewN m := by
  obtain ⟨a, ca, rfl, hca, hA⟩ := ha
  obtain ⟨b, cb, rfl, hcb, hB⟩ := hb
  by_cases hlen : A.length = B.length
  · obtain ⟨n, hn⟩ : ∃ n, n = A.length := ⟨_, rfl⟩
    rw [← hlen]
    rw [← hn] at hl hca ⊢
    rw [← hlen, ← hn] at hcb
    have HN : Hid (n = A.length ∧ n = B.length ∧ n ≤ ca ∧ n ≤ cb ∧ n ≤ 1000000) := ⟨hn, hn.trans hlen, hca, hcb, hl⟩
    have HA : Hid (A ≠ [] → ∃ g, a = some ⟨g, 0, none⟩ ∧ ∀ q u, (e2 A)[q]? = some u → w.cell? ⟨g, q, none⟩ = some u) := hA
    have HB : Hid (B ≠ [] → ∃ g, b = some ⟨g, 0, none⟩ ∧ ∀ q u, (e2 B)[q]? = some u → w.cell? ⟨g, q, none⟩ = some u) := hB
    clear hn hlen hl hca hcb hA hB
    obtain ⟨bo, hbo⟩ : ∃ bo, bo = decide (A = B) := ⟨_, rfl⟩
    rw [← hbo]
    have HBO : Hid (bo = decide (A = B)) := hbo
    clear hbo
    go_enter Try.func42, Try.ntmps42
    go_wp2_with fail
    go_loopg [5] n (fun gk s5 wx => ∃ j : Nat, j + gk = n ∧ s5 = .int .i64 j ∧ Hid (∀ q, q < j → A[q]? = B[q]?) ∧ Hid (∃ m, wx = w.drewN m))
    case atStart => exact ⟨0, by omega, rfl, fun q hq => absurd hq (Nat.not_lt_zero _), 0, rfl⟩
    case round =>
      obtain ⟨j, hj, rfl, HQ, HW⟩ := hrel
      cases gk with
      | zero =>
        obtain rfl : j = n := by omega
        have hz : ¬ (j : Int) < (j : Int) := by omega
        go_wp2_with fail
        go_ret
        refine ⟨?_, HW.out⟩
        have hAB : A = B := List.ext_getElem? (fun q => by
          by_cases hq : q < j
          · exact HQ.out q hq
          · have := HN.out
            rw [List.getElem?_eq_none (by omega), List.getElem?_eq_none (by omega)])
        rw [HBO.out, decide_eq_true hAB]
        rfl
      | succ gk =>
        have hz : (j : Int) < (n : Int) := by omega
        have hz0 : (0 : Int) ≤ (j : Int) := by omega
        have hwj : IntKind.i64.wrap ((j : Int) + 1) = (j : Int) + 1 := by rw [IntKind.wrap_i64]; have := HN.out; omega
        obtain ⟨⟨k1, v1⟩, h1⟩ : ∃ x, A[j]? = some x := ⟨_, List.getElem?_eq_getElem (by have := HN.out; omega)⟩
        obtain ⟨⟨k2, v2⟩, h2⟩ : ∃ x, B[j]? = some x := ⟨_, List.getElem?_eq_getElem (by have := HN.out; omega)⟩
        obtain ⟨g, rfl, hg⟩ := HA.out (by intro q; rw [q] at h1; simp at h1)
        obtain ⟨g', rfl, hg'⟩ := HB.out (by intro q; rw [q] at h2; simp at h2)
        obtain ⟨m, hm⟩ := HW.out
        have p1 : wr.cell? ⟨g, j * 2, none⟩ = some (.int .i64 k1) := by rw [hm]; exact hg _ _ (e2_at A j _ h1).1
        have p2 : wr.cell? ⟨g, j * 2 + 1, none⟩ = some (.int .i64 v1) := by rw [hm]; exact hg _ _ (e2_at A j _ h1).2
        have p3 : wr.cell? ⟨g', j * 2, none⟩ = some (.int .i64 k2) := by rw [hm]; exact hg' _ _ (e2_at B j _ h2).1
        have p4 : wr.cell? ⟨g', j * 2 + 1, none⟩ = some (.int .i64 v2) := by rw [hm]; exact hg' _ _ (e2_at B j _ h2).2
        have HW2 : Hid (∃ k, wr.drew = w.drewN k) := ⟨m + 1, by rw [hm, ← World.drewN_drewN]; rfl⟩
        have H1 : Hid (A[j]? = some (k1, v1)) := h1
        have H2 : Hid (B[j]? = some (k2, v2)) := h2
        clear h1 h2 hg hg' hm HW HA HB
        by_cases e1 : k1 = k2
        · by_cases e2' : v1 = v2
          · subst e1 e2'
            go_wp2_with fail
            go_region
            all_goals go_wp2_with fail
            all_goals go_roundg gk
            case measure => omega
            case rel => exact ⟨j + 1, by omega, by first | rfl | simp, fun q hq => by
              by_cases e : q = j
              · rw [e, H1.out, H2.out]
              · exact HQ.out q (by omega), HW2⟩
          · subst e1
            have n1 : (v1 == v2) = false := by simpa using e2'
            go_wp2_with fail
            go_region
            all_goals go_wp2_with fail
            all_goals go_ret
            all_goals refine ⟨?_, HW2.out⟩
            all_goals rw [HBO.out, decide_eq_false (fun q => by
              have h1 := H1.out
              rw [q, H2.out] at h1
              simp at h1
              exact e2' h1.symm)]
            all_goals rfl
        · have n1 : (k1 == k2) = false := by simpa using e1
          go_wp2_with fail
          go_region
          all_goals go_wp2_with fail
          all_goals go_ret
          all_goals refine ⟨?_, HW2.out⟩
          all_goals rw [HBO.out, decide_eq_false (fun q => by
            have h1 := H1.out
            rw [q, H2.out] at h1
            simp at h1
            exact e1 h1.1.symm)]
          all_goals rfl
  · have hne : ((A.length : Int) == (B.length : Int)) = false := beq_eq_false_iff_ne.2 (by omega)
    have hAB : decide (A = B) = false := decide_eq_false (fun q => hlen (by rw [q]))
    rw [hAB]
    clear hA hB hAB
    go_enter Try.func42, Try.ntmps42
    go_wp2_with fail
    go_ret
    exact ⟨rfl, 0, rfl⟩
end Go.Proofs.Ytdhinpmjbcohaaa.Rf
