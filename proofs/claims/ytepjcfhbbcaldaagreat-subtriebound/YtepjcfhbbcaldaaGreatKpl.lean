import Derived.Test.YtepjcfhbbcaldaaGreatKpi
import Derived.Test.YtepjcfhbbcaldaaGreatKie
import Derived.Test.YtepjcfhbbcaldaaGreatKng
namespace Go.Proofs.YtepjcfhbbcaldaaGreat.Li
open Go Go.RowKit
set_option linter.unusedSimpArgs false
set_option linter.unusedVariables false
/-- What small tells of two lists. -/
def SmR2 (l l2 : List Sb) (b : Bool) : Prop := b = true → l.length ≤ 60 ∧ l2.length ≤ 60 ∧ sumS l + sumS l2 ≤ 60000
set_option maxRecDepth 100000 in
set_option maxHeartbeats 8000000 in
theorem small2_any {w : World} {v v2 : Value} {l l2 : List Sb} {lb : Nat} (h : SbAt w v l) (h2 : SbAt w v2 l2) (hlb : lb < w.heap.size) (c0 : w.cell? ⟨lb, 0, none⟩ = some v) (cB0 : w.cell? ⟨lb, 1, none⟩ = some v2) (hx : ∀ s ∈ l, s.f.size ≤ 140737488355328 ∧ s.x.size ≤ 140737488355328) (hx2 : ∀ s ∈ l2, s.f.size ≤ 140737488355328 ∧ s.x.size ≤ 140737488355328) :
    Calls Tryz.prog 4 #[.slice (some ⟨lb, 0, none⟩) 2 2] w fun e w' => ∃ b, e = .returned (.bool b) ∧ SmR2 l l2 b ∧ Below w.heap.size w w' := by
  obtain ⟨a, n, cap, rfl, hn, hc, hrow⟩ := h.ex
  have V2 := hidi (show ∃ (a : Option Addr) (n cap : Nat), v2 = .slice a n cap ∧ Hid (n = l2.length ∧ n ≤ cap) ∧ Hid (l2 ≠ [] → ∃ g o, a = some ⟨g, o, none⟩ ∧ g < w.heap.size ∧ ∀ k s, l2[k]? = some s → w.cell? ⟨g, o + k * 3, none⟩ = some (.string s.f) ∧ w.cell? ⟨g, o + k * 3 + 1, none⟩ = some (.string s.x) ∧ w.cell? ⟨g, o + k * 3 + 2, none⟩ = some (.int .i64 s.q)) from by
    obtain ⟨a, n, cap, e, q1, q2, q3⟩ := h2.ex
    exact ⟨a, n, cap, e, ⟨q1, q2⟩, q3⟩)
  have C1 := hidi cB0
  have HX2 := hidi hx2
  clear h2 cB0 hx2
  by_cases big : 60 < n
  · have b1 : (60 : Int) < n := by omega
    have b2 : (n : Int) > 60 := by omega
    have FIN := hidi (show SmR2 l l2 false from fun c => by cases c)
    clear h hn hc hrow hx hlb
    go_enter Tryz.func4, Tryz.ntmps4
    go_wp2_with fail
    refine wp_loop_rounds 1 ?_
    rw [rounds_succ]
    go_wp2_with fail
    go_ret
    exact ⟨false, rfl, FIN.out, Below.refl _ _⟩
  · have b1 : ¬ (60 : Int) < n := by omega
    have b2 : ¬ (n : Int) > 60 := by omega
    have HN := hidi (show n = l.length ∧ n ≤ cap ∧ n ≤ 60 from ⟨hn, hc, by omega⟩)
    have HR := hidi hrow
    have HX := hidi hx
    have HL := hidi hlb
    clear h hn hc hrow hx big hlb
    go_enter Tryz.func4, Tryz.ntmps4
    go_wp2_with fail
    refine wp_loop_rounds 3 ?_
    rw [rounds_succ]
    go_wp2_with fail
    go_loopg [3, 5] n (fun gg s3 s5 wx => ∃ k : Nat, k ≤ n ∧ gg = n - k ∧ s3 = .int .i64 (sumS (l.take k) : Nat) ∧ s5 = .int .i64 k ∧ Hid (Below w.heap.size w wx ∧ (k = 0 ∨ sumS (l.take (k - 1)) ≤ 60000)))
    case atStart => exact ⟨0, Nat.zero_le _, rfl, rfl, rfl, Below.refl _ _, .inl rfl⟩
    case round =>
      obtain ⟨k, hk, rfl, rfl, rfl, Z⟩ := hrel
      have c1 : wr.cell? ⟨lb, 0, none⟩ = some (.slice a n cap) := by rw [Z.out.1.cell (by exact HL.out)]; exact c0
      obtain ⟨sm, hsm⟩ : ∃ sm, sm = sumS (l.take k) := ⟨_, rfl⟩
      rw [← hsm]
      have HS := hidi hsm
      clear hsm
      have bsm : sm ≤ 60000 + 281474976710657 := by
        rcases Z.out.2 with q | q
        · have := HS.out; rw [q] at this; simp [sumS] at this; omega
        · have h1 := HS.out
          by_cases k0 : k = 0
          · rw [k0] at h1; simp [sumS] at h1; omega
          · obtain ⟨t, ht⟩ : ∃ t, l[k - 1]? = some t := ⟨_, List.getElem?_eq_getElem (by have := HN.out.1; omega)⟩
            have h2 := HX.out t (List.mem_of_getElem? ht)
            rw [show k = (k - 1) + 1 by omega, List.take_add_one, ht, sumS_app] at h1
            simp [sumS] at h1
            omega
      by_cases lt : k < n
      · have lt' : (k : Int) < n := by omega
        by_cases le : sm ≤ 60000
        · have le' : (sm : Int) ≤ 60000 := by omega
          obtain ⟨t, ht⟩ : ∃ t, l[k]? = some t := ⟨_, List.getElem?_eq_getElem (by have := HN.out.1; omega)⟩
          obtain ⟨g, o, rfl, hg, hcells⟩ := HR.out (fun e => by subst e; simp at ht)
          obtain ⟨x1, x2, x3⟩ := hcells k t ht
          have y1 : wr.cell? ⟨g, o + k * 3, none⟩ = some (.string t.f) := by rw [Z.out.1.cell (by exact hg)]; exact x1
          have y2 : wr.cell? ⟨g, o + k * 3 + 1, none⟩ = some (.string t.x) := by rw [Z.out.1.cell (by exact hg)]; exact x2
          have tx := HX.out t (List.mem_of_getElem? ht)
          have hw1 : IntKind.i64.wrap ((sm : Int) + 1) = (sm : Int) + 1 := by rw [IntKind.wrap_i64]; omega
          have hw2 : IntKind.i64.wrap ((sm : Int) + 1 + (t.f.size : Int)) = (sm : Int) + 1 + (t.f.size : Int) := by rw [IntKind.wrap_i64]; omega
          have hw3 : IntKind.i64.wrap ((sm : Int) + 1 + (t.f.size : Int) + (t.x.size : Int)) = (sm : Int) + 1 + (t.f.size : Int) + (t.x.size : Int) := by rw [IntKind.wrap_i64]; omega
          have hw4 : IntKind.i64.wrap ((k : Int) + 1) = (k : Int) + 1 := by rw [IntKind.wrap_i64]; have := HN.out; omega
          have NX := hidi (show sm + 1 + t.f.size + t.x.size = sumS (l.take (k + 1)) ∧ sumS (l.take (k + 1 - 1)) ≤ 60000 from ⟨by rw [List.take_add_one, ht, sumS_app, ← HS.out]; simp [sumS]; omega, by rw [Nat.add_sub_cancel, ← HS.out]; exact le⟩)
          clear ht hcells x1 x2 x3 tx bsm le hg
          go_wp2_with fail
          go_quiet (fail)
          go_wp2_with fail
          go_roundg (n - (k + 1))
          case measure => omega
          case rel => exact ⟨k + 1, by omega, rfl, by rw [← NX.out.1]; simp, by simp, below_drewN Z.out.1, .inr NX.out.2⟩
        · have le' : ¬ (sm : Int) ≤ 60000 := by omega
          have SMF : sm ≤ 60000 → sm = sumS l := fun q => absurd q le
          obtain ⟨a2, n2, cap2, rfl, HN2, HR2⟩ := V2.out
          by_cases big2 : 60 < n2
          · have b3 : (60 : Int) < n2 := by omega
            have b4 : (n2 : Int) > 60 := by omega
            have cB : wr.cell? ⟨lb, 1, none⟩ = some (.slice a2 n2 cap2) := by rw [Z.out.1.cell (by exact HL.out)]; exact C1.out
            go_wp2_with fail
            rw [rounds_succ]
            go_wp2_with fail
            go_ret
            exact ⟨false, rfl, (fun c => by cases c), Z.out.1⟩
          · have b3 : ¬ (60 : Int) < n2 := by omega
            have b4 : ¬ (n2 : Int) > 60 := by omega
            have N60 := hidi (show n2 ≤ 60 from by omega)
            have cB : wr.cell? ⟨lb, 1, none⟩ = some (.slice a2 n2 cap2) := by rw [Z.out.1.cell (by exact HL.out)]; exact C1.out
            have SM := hidi (And.intro bsm SMF)
            have Z1 := hidi Z.out.1
            clear big2 bsm SMF Z lt
            go_wp2_with fail
            rw [rounds_succ]
            go_wp2_with fail
            clear cB c1
            go_loopg [3, 5] n2 (fun gg s3 s5 wx => ∃ k : Nat, k ≤ n2 ∧ gg = n2 - k ∧ s3 = .int .i64 ((sm + sumS (l2.take k) : Nat) : Int) ∧ s5 = .int .i64 k ∧ Hid (Below w.heap.size w wx ∧ (k = 0 ∨ sm + sumS (l2.take (k - 1)) ≤ 60000)))
            case atStart => exact ⟨0, Nat.zero_le _, rfl, rfl, rfl, Z1.out, .inl rfl⟩
            case round =>
              obtain ⟨k2, hk2, rfl, rfl, rfl, Y⟩ := hrel
              have cB : wr.cell? ⟨lb, 1, none⟩ = some (.slice a2 n2 cap2) := by rw [Y.out.1.cell (by exact HL.out)]; exact C1.out
              obtain ⟨su, hsu⟩ : ∃ su, su = sm + sumS (l2.take k2) := ⟨_, rfl⟩
              rw [← hsu]
              have HU := hidi hsu
              clear hsu
              have bsu : su ≤ 60000 + 281474976710657 + 281474976710657 := by
                rcases Y.out.2 with q | q
                · have h1 := HU.out; rw [q] at h1; simp [sumS] at h1; have := SM.out.1; omega
                · have h1 := HU.out
                  by_cases k0 : k2 = 0
                  · rw [k0] at h1; simp [sumS] at h1; have := SM.out.1; omega
                  · obtain ⟨t, ht⟩ : ∃ t, l2[k2 - 1]? = some t := ⟨_, List.getElem?_eq_getElem (by have := HN2.out.1; omega)⟩
                    have h2 := HX2.out t (List.mem_of_getElem? ht)
                    rw [show k2 = (k2 - 1) + 1 by omega, List.take_add_one, ht, sumS_app] at h1
                    simp [sumS] at h1
                    omega
              by_cases lt2 : k2 < n2
              · have lt2' : (k2 : Int) < n2 := by omega
                by_cases le2 : su ≤ 60000
                · have le2' : (su : Int) ≤ 60000 := by omega
                  obtain ⟨t, ht⟩ : ∃ t, l2[k2]? = some t := ⟨_, List.getElem?_eq_getElem (by have := HN2.out.1; omega)⟩
                  obtain ⟨g, o, rfl, hg, hcells⟩ := HR2.out (fun e => by subst e; simp at ht)
                  obtain ⟨x1, x2, x3⟩ := hcells k2 t ht
                  have y1 : wr.cell? ⟨g, o + k2 * 3, none⟩ = some (.string t.f) := by rw [Y.out.1.cell (by exact hg)]; exact x1
                  have y2 : wr.cell? ⟨g, o + k2 * 3 + 1, none⟩ = some (.string t.x) := by rw [Y.out.1.cell (by exact hg)]; exact x2
                  have tx := HX2.out t (List.mem_of_getElem? ht)
                  have hw1 : IntKind.i64.wrap ((su : Int) + 1) = (su : Int) + 1 := by rw [IntKind.wrap_i64]; omega
                  have hw2 : IntKind.i64.wrap ((su : Int) + 1 + (t.f.size : Int)) = (su : Int) + 1 + (t.f.size : Int) := by rw [IntKind.wrap_i64]; omega
                  have hw3 : IntKind.i64.wrap ((su : Int) + 1 + (t.f.size : Int) + (t.x.size : Int)) = (su : Int) + 1 + (t.f.size : Int) + (t.x.size : Int) := by rw [IntKind.wrap_i64]; omega
                  have hw4 : IntKind.i64.wrap ((k2 : Int) + 1) = (k2 : Int) + 1 := by rw [IntKind.wrap_i64]; have := N60.out; omega
                  have NX := hidi (show su + 1 + t.f.size + t.x.size = sm + sumS (l2.take (k2 + 1)) ∧ sm + sumS (l2.take (k2 + 1 - 1)) ≤ 60000 from ⟨by rw [List.take_add_one, ht, sumS_app]; have := HU.out; simp [sumS]; omega, by rw [Nat.add_sub_cancel, ← HU.out]; exact le2⟩)
                  clear ht hcells x1 x2 x3 tx bsu hg
                  go_wp2_with fail
                  go_quiet (fail)
                  go_wp2_with fail
                  go_roundg (n2 - (k2 + 1))
                  case measure => omega
                  case rel => exact ⟨k2 + 1, by omega, rfl, by rw [← NX.out.1]; simp, by simp, below_drewN Y.out.1, .inr NX.out.2⟩
                · have le2' : ¬ (su : Int) ≤ 60000 := by omega
                  go_wp2_with fail
                  rw [rounds_succ]
                  go_wp2_with fail
                  go_ret
                  exact ⟨_, rfl, fun c => absurd (of_decide_eq_true c) (by omega), Y.out.1⟩
              · have lt2' : ¬ (k2 : Int) < n2 := by omega
                obtain rfl : k2 = n2 := by omega
                by_cases le2 : su ≤ 60000
                · have le2' : (su : Int) ≤ 60000 := by omega
                  go_wp2_with fail
                  rw [rounds_succ]
                  go_wp2_with fail
                  go_ret
                  refine ⟨true, rfl, fun _ => ?_, Y.out.1⟩
                  have u1 := HU.out
                  rw [List.take_of_length_le (by have := HN2.out; omega)] at u1
                  have u2 := SM.out.2 (by omega)
                  exact ⟨by have := HN.out; omega, by have := HN2.out; have := N60.out; omega, by omega⟩
                · have le2' : ¬ (su : Int) ≤ 60000 := by omega
                  go_wp2_with fail
                  rw [rounds_succ]
                  go_wp2_with fail
                  go_ret
                  exact ⟨_, rfl, fun c => absurd (of_decide_eq_true c) (by omega), Y.out.1⟩
      · have lt' : ¬ (k : Int) < n := by omega
        obtain rfl : k = n := by omega
        by_cases le : sm ≤ 60000
        · have le' : (sm : Int) ≤ 60000 := by omega
          have SMF : sm ≤ 60000 → sm = sumS l := fun _ => by have := HS.out; rw [List.take_of_length_le (by have := HN.out; omega)] at this; exact this
          obtain ⟨a2, n2, cap2, rfl, HN2, HR2⟩ := V2.out
          by_cases big2 : 60 < n2
          · have b3 : (60 : Int) < n2 := by omega
            have b4 : (n2 : Int) > 60 := by omega
            have cB : wr.cell? ⟨lb, 1, none⟩ = some (.slice a2 n2 cap2) := by rw [Z.out.1.cell (by exact HL.out)]; exact C1.out
            go_wp2_with fail
            rw [rounds_succ]
            go_wp2_with fail
            go_ret
            exact ⟨false, rfl, (fun c => by cases c), Z.out.1⟩
          · have b3 : ¬ (60 : Int) < n2 := by omega
            have b4 : ¬ (n2 : Int) > 60 := by omega
            have N60 := hidi (show n2 ≤ 60 from by omega)
            have cB : wr.cell? ⟨lb, 1, none⟩ = some (.slice a2 n2 cap2) := by rw [Z.out.1.cell (by exact HL.out)]; exact C1.out
            have SM := hidi (And.intro bsm SMF)
            have Z1 := hidi Z.out.1
            clear big2 bsm SMF Z lt
            go_wp2_with fail
            rw [rounds_succ]
            go_wp2_with fail
            clear cB c1
            go_loopg [3, 5] n2 (fun gg s3 s5 wx => ∃ k : Nat, k ≤ n2 ∧ gg = n2 - k ∧ s3 = .int .i64 ((sm + sumS (l2.take k) : Nat) : Int) ∧ s5 = .int .i64 k ∧ Hid (Below w.heap.size w wx ∧ (k = 0 ∨ sm + sumS (l2.take (k - 1)) ≤ 60000)))
            case atStart => exact ⟨0, Nat.zero_le _, rfl, rfl, rfl, Z1.out, .inl rfl⟩
            case round =>
              obtain ⟨k2, hk2, rfl, rfl, rfl, Y⟩ := hrel
              have cB : wr.cell? ⟨lb, 1, none⟩ = some (.slice a2 n2 cap2) := by rw [Y.out.1.cell (by exact HL.out)]; exact C1.out
              obtain ⟨su, hsu⟩ : ∃ su, su = sm + sumS (l2.take k2) := ⟨_, rfl⟩
              rw [← hsu]
              have HU := hidi hsu
              clear hsu
              have bsu : su ≤ 60000 + 281474976710657 + 281474976710657 := by
                rcases Y.out.2 with q | q
                · have h1 := HU.out; rw [q] at h1; simp [sumS] at h1; have := SM.out.1; omega
                · have h1 := HU.out
                  by_cases k0 : k2 = 0
                  · rw [k0] at h1; simp [sumS] at h1; have := SM.out.1; omega
                  · obtain ⟨t, ht⟩ : ∃ t, l2[k2 - 1]? = some t := ⟨_, List.getElem?_eq_getElem (by have := HN2.out.1; omega)⟩
                    have h2 := HX2.out t (List.mem_of_getElem? ht)
                    rw [show k2 = (k2 - 1) + 1 by omega, List.take_add_one, ht, sumS_app] at h1
                    simp [sumS] at h1
                    omega
              by_cases lt2 : k2 < n2
              · have lt2' : (k2 : Int) < n2 := by omega
                by_cases le2 : su ≤ 60000
                · have le2' : (su : Int) ≤ 60000 := by omega
                  obtain ⟨t, ht⟩ : ∃ t, l2[k2]? = some t := ⟨_, List.getElem?_eq_getElem (by have := HN2.out.1; omega)⟩
                  obtain ⟨g, o, rfl, hg, hcells⟩ := HR2.out (fun e => by subst e; simp at ht)
                  obtain ⟨x1, x2, x3⟩ := hcells k2 t ht
                  have y1 : wr.cell? ⟨g, o + k2 * 3, none⟩ = some (.string t.f) := by rw [Y.out.1.cell (by exact hg)]; exact x1
                  have y2 : wr.cell? ⟨g, o + k2 * 3 + 1, none⟩ = some (.string t.x) := by rw [Y.out.1.cell (by exact hg)]; exact x2
                  have tx := HX2.out t (List.mem_of_getElem? ht)
                  have hw1 : IntKind.i64.wrap ((su : Int) + 1) = (su : Int) + 1 := by rw [IntKind.wrap_i64]; omega
                  have hw2 : IntKind.i64.wrap ((su : Int) + 1 + (t.f.size : Int)) = (su : Int) + 1 + (t.f.size : Int) := by rw [IntKind.wrap_i64]; omega
                  have hw3 : IntKind.i64.wrap ((su : Int) + 1 + (t.f.size : Int) + (t.x.size : Int)) = (su : Int) + 1 + (t.f.size : Int) + (t.x.size : Int) := by rw [IntKind.wrap_i64]; omega
                  have hw4 : IntKind.i64.wrap ((k2 : Int) + 1) = (k2 : Int) + 1 := by rw [IntKind.wrap_i64]; have := N60.out; omega
                  have NX := hidi (show su + 1 + t.f.size + t.x.size = sm + sumS (l2.take (k2 + 1)) ∧ sm + sumS (l2.take (k2 + 1 - 1)) ≤ 60000 from ⟨by rw [List.take_add_one, ht, sumS_app]; have := HU.out; simp [sumS]; omega, by rw [Nat.add_sub_cancel, ← HU.out]; exact le2⟩)
                  clear ht hcells x1 x2 x3 tx bsu hg
                  go_wp2_with fail
                  go_quiet (fail)
                  go_wp2_with fail
                  go_roundg (n2 - (k2 + 1))
                  case measure => omega
                  case rel => exact ⟨k2 + 1, by omega, rfl, by rw [← NX.out.1]; simp, by simp, below_drewN Y.out.1, .inr NX.out.2⟩
                · have le2' : ¬ (su : Int) ≤ 60000 := by omega
                  go_wp2_with fail
                  rw [rounds_succ]
                  go_wp2_with fail
                  go_ret
                  exact ⟨_, rfl, fun c => absurd (of_decide_eq_true c) (by omega), Y.out.1⟩
              · have lt2' : ¬ (k2 : Int) < n2 := by omega
                obtain rfl : k2 = n2 := by omega
                by_cases le2 : su ≤ 60000
                · have le2' : (su : Int) ≤ 60000 := by omega
                  go_wp2_with fail
                  rw [rounds_succ]
                  go_wp2_with fail
                  go_ret
                  refine ⟨true, rfl, fun _ => ?_, Y.out.1⟩
                  have u1 := HU.out
                  rw [List.take_of_length_le (by have := HN2.out; omega)] at u1
                  have u2 := SM.out.2 (by omega)
                  exact ⟨by have := HN.out; omega, by have := HN2.out; have := N60.out; omega, by omega⟩
                · have le2' : ¬ (su : Int) ≤ 60000 := by omega
                  go_wp2_with fail
                  rw [rounds_succ]
                  go_wp2_with fail
                  go_ret
                  exact ⟨_, rfl, fun c => absurd (of_decide_eq_true c) (by omega), Y.out.1⟩
        · have le' : ¬ (sm : Int) ≤ 60000 := by omega
          have SMF : sm ≤ 60000 → sm = sumS l := fun q => absurd q le
          obtain ⟨a2, n2, cap2, rfl, HN2, HR2⟩ := V2.out
          by_cases big2 : 60 < n2
          · have b3 : (60 : Int) < n2 := by omega
            have b4 : (n2 : Int) > 60 := by omega
            have cB : wr.cell? ⟨lb, 1, none⟩ = some (.slice a2 n2 cap2) := by rw [Z.out.1.cell (by exact HL.out)]; exact C1.out
            go_wp2_with fail
            rw [rounds_succ]
            go_wp2_with fail
            go_ret
            exact ⟨false, rfl, (fun c => by cases c), Z.out.1⟩
          · have b3 : ¬ (60 : Int) < n2 := by omega
            have b4 : ¬ (n2 : Int) > 60 := by omega
            have N60 := hidi (show n2 ≤ 60 from by omega)
            have cB : wr.cell? ⟨lb, 1, none⟩ = some (.slice a2 n2 cap2) := by rw [Z.out.1.cell (by exact HL.out)]; exact C1.out
            have SM := hidi (And.intro bsm SMF)
            have Z1 := hidi Z.out.1
            clear big2 bsm SMF Z lt
            go_wp2_with fail
            rw [rounds_succ]
            go_wp2_with fail
            clear cB c1
            go_loopg [3, 5] n2 (fun gg s3 s5 wx => ∃ k : Nat, k ≤ n2 ∧ gg = n2 - k ∧ s3 = .int .i64 ((sm + sumS (l2.take k) : Nat) : Int) ∧ s5 = .int .i64 k ∧ Hid (Below w.heap.size w wx ∧ (k = 0 ∨ sm + sumS (l2.take (k - 1)) ≤ 60000)))
            case atStart => exact ⟨0, Nat.zero_le _, rfl, rfl, rfl, Z1.out, .inl rfl⟩
            case round =>
              obtain ⟨k2, hk2, rfl, rfl, rfl, Y⟩ := hrel
              have cB : wr.cell? ⟨lb, 1, none⟩ = some (.slice a2 n2 cap2) := by rw [Y.out.1.cell (by exact HL.out)]; exact C1.out
              obtain ⟨su, hsu⟩ : ∃ su, su = sm + sumS (l2.take k2) := ⟨_, rfl⟩
              rw [← hsu]
              have HU := hidi hsu
              clear hsu
              have bsu : su ≤ 60000 + 281474976710657 + 281474976710657 := by
                rcases Y.out.2 with q | q
                · have h1 := HU.out; rw [q] at h1; simp [sumS] at h1; have := SM.out.1; omega
                · have h1 := HU.out
                  by_cases k0 : k2 = 0
                  · rw [k0] at h1; simp [sumS] at h1; have := SM.out.1; omega
                  · obtain ⟨t, ht⟩ : ∃ t, l2[k2 - 1]? = some t := ⟨_, List.getElem?_eq_getElem (by have := HN2.out.1; omega)⟩
                    have h2 := HX2.out t (List.mem_of_getElem? ht)
                    rw [show k2 = (k2 - 1) + 1 by omega, List.take_add_one, ht, sumS_app] at h1
                    simp [sumS] at h1
                    omega
              by_cases lt2 : k2 < n2
              · have lt2' : (k2 : Int) < n2 := by omega
                by_cases le2 : su ≤ 60000
                · have le2' : (su : Int) ≤ 60000 := by omega
                  obtain ⟨t, ht⟩ : ∃ t, l2[k2]? = some t := ⟨_, List.getElem?_eq_getElem (by have := HN2.out.1; omega)⟩
                  obtain ⟨g, o, rfl, hg, hcells⟩ := HR2.out (fun e => by subst e; simp at ht)
                  obtain ⟨x1, x2, x3⟩ := hcells k2 t ht
                  have y1 : wr.cell? ⟨g, o + k2 * 3, none⟩ = some (.string t.f) := by rw [Y.out.1.cell (by exact hg)]; exact x1
                  have y2 : wr.cell? ⟨g, o + k2 * 3 + 1, none⟩ = some (.string t.x) := by rw [Y.out.1.cell (by exact hg)]; exact x2
                  have tx := HX2.out t (List.mem_of_getElem? ht)
                  have hw1 : IntKind.i64.wrap ((su : Int) + 1) = (su : Int) + 1 := by rw [IntKind.wrap_i64]; omega
                  have hw2 : IntKind.i64.wrap ((su : Int) + 1 + (t.f.size : Int)) = (su : Int) + 1 + (t.f.size : Int) := by rw [IntKind.wrap_i64]; omega
                  have hw3 : IntKind.i64.wrap ((su : Int) + 1 + (t.f.size : Int) + (t.x.size : Int)) = (su : Int) + 1 + (t.f.size : Int) + (t.x.size : Int) := by rw [IntKind.wrap_i64]; omega
                  have hw4 : IntKind.i64.wrap ((k2 : Int) + 1) = (k2 : Int) + 1 := by rw [IntKind.wrap_i64]; have := N60.out; omega
                  have NX := hidi (show su + 1 + t.f.size + t.x.size = sm + sumS (l2.take (k2 + 1)) ∧ sm + sumS (l2.take (k2 + 1 - 1)) ≤ 60000 from ⟨by rw [List.take_add_one, ht, sumS_app]; have := HU.out; simp [sumS]; omega, by rw [Nat.add_sub_cancel, ← HU.out]; exact le2⟩)
                  clear ht hcells x1 x2 x3 tx bsu hg
                  go_wp2_with fail
                  go_quiet (fail)
                  go_wp2_with fail
                  go_roundg (n2 - (k2 + 1))
                  case measure => omega
                  case rel => exact ⟨k2 + 1, by omega, rfl, by rw [← NX.out.1]; simp, by simp, below_drewN Y.out.1, .inr NX.out.2⟩
                · have le2' : ¬ (su : Int) ≤ 60000 := by omega
                  go_wp2_with fail
                  rw [rounds_succ]
                  go_wp2_with fail
                  go_ret
                  exact ⟨_, rfl, fun c => absurd (of_decide_eq_true c) (by omega), Y.out.1⟩
              · have lt2' : ¬ (k2 : Int) < n2 := by omega
                obtain rfl : k2 = n2 := by omega
                by_cases le2 : su ≤ 60000
                · have le2' : (su : Int) ≤ 60000 := by omega
                  go_wp2_with fail
                  rw [rounds_succ]
                  go_wp2_with fail
                  go_ret
                  refine ⟨true, rfl, fun _ => ?_, Y.out.1⟩
                  have u1 := HU.out
                  rw [List.take_of_length_le (by have := HN2.out; omega)] at u1
                  have u2 := SM.out.2 (by omega)
                  exact ⟨by have := HN.out; omega, by have := HN2.out; have := N60.out; omega, by omega⟩
                · have le2' : ¬ (su : Int) ≤ 60000 := by omega
                  go_wp2_with fail
                  rw [rounds_succ]
                  go_wp2_with fail
                  go_ret
                  exact ⟨_, rfl, fun c => absurd (of_decide_eq_true c) (by omega), Y.out.1⟩
end Go.Proofs.YtepjcfhbbcaldaaGreat.Li
namespace Go.Proofs.YtepjcfhbbcaldaaGreat.Li
open Go Go.RowKit
set_option linter.unusedSimpArgs false
set_option linter.unusedVariables false
theorem SbAt.below {w w' : World} {v : Value} {l : List Sb} (h : SbAt w v l) (hb : Below w.heap.size w w') : SbAt w' v l := by
  obtain ⟨a, n, cap, rfl, hn, hc, hrow⟩ := h.ex
  refine ⟨a, n, cap, rfl, hn, hc, fun hne => ?_⟩
  obtain ⟨g, o, e, hg, hcl⟩ := hrow hne
  refine ⟨g, o, e, by have := hb.size; omega, fun k s hs => ?_⟩
  obtain ⟨x1, x2, x3⟩ := hcl k s hs
  exact ⟨by rw [hb.cell (by exact hg)]; exact x1, by rw [hb.cell (by exact hg)]; exact x2, by rw [hb.cell (by exact hg)]; exact x3⟩
/-- What is left of what was laid. -/
def lft (l : List Sb) (i : Nat) : Held := fun F y z => hold l F y z ∧ ∀ j s, j < i → l[j]? = some s → y ≠ s.x
/-- The world of the law's loops. -/
structure Bd (w2 wx : World) (tb m r P : Nat) (l : List Sb) (E : Held) (tb' m' r' : Nat) (nfU : Int) (U : List Fn) : Prop where
  two : Two w2 wx tb m r P E tb' m' r' nfU U
  eU : ∀ F y z, HasE U F y z ↔ hold l F y z
  fU : FormX U []
  cU : CN U nfU
  few : ∀ f ∈ U, f.ne ≤ 60
variable {w2 wx wr w3 : World} {tb m r P tb' m' r' i : Nat} {nfU : Int} {U : List Fn} {l : List Sb} {E E' : Held} {s : Sb}
theorem Bd.same (b : Bd w2 wx tb m r P l (hold l) tb' m' r' nfU U) (hP : P ≤ 1000) (ok : ∀ F y z, hold l F y z → okT y) : Calls Tryz.prog 10 #[ptr tb, ptr tb'] wx fun e w' => e = .returned (.bool true) ∧ Bd w2 w' tb m r P l (hold l) tb' m' r' nfU U :=
  (b.two.same (by omega) ok b.eU b.fU b.cU (fun f hf => by have := b.few f hf; omega)).mono (fun e w' h => ⟨h.1, b.two.below h.2, b.eU, b.fU, b.cU, b.few⟩)
theorem Bd.bound (b : Bd w2 wx tb m r P l E tb' m' r' nfU U) (hP : P ≤ 1000) : Calls Tryz.prog 8 #[ptr tb] wx fun e w' => e = .returned (.bool true) ∧ w' = wx := b.two.bound (by omega)
theorem Bd.put (b : Bd w2 wx tb m r P l (hold l) tb' m' r' nfU U) (hP : P ≤ 900) (ok : ∀ s ∈ l, okT s.x) (hx : s.x.size ≤ 60000) (wy : World) (hb : Below wx.heap.size wx wy) :
    Calls Tryz.prog 7 #[ptr tb, .string s.f, .string s.x, .int .i64 s.q] wy fun e w' => ∃ o c : Int, e = .returned (.tuple #[.int .i64 o, .int .i64 c]) ∧ KB29 wy w' ∧ ((c ≠ 0 ∧ Bd w2 w' tb m r (P + 2) l (hold l) tb' m' r' nfU U) ∨ (c = 0 ∧ Bd w2 w' tb m r (P + 1) l (stepE (hold l) s) tb' m' r' nfU U ∧
      ((o = -1 ∧ Calls Tryz.prog 9 #[ptr tb, .string s.f, .string s.x] w' fun e w'' => e = .returned (.bool true) ∧ Bd w2 w'' tb m r (P + 2) l (hold l) tb' m' r' nfU U) ∨
       (0 ≤ o ∧ Calls Tryz.prog 7 #[ptr tb, .string s.f, .string s.x, .int .i64 o] w' fun e w'' => ∃ o' c' : Int, e = .returned (.tuple #[.int .i64 o', .int .i64 c']) ∧ Bd w2 w'' tb m r (P + 2) l (hold l) tb' m' r' nfU U)))) := by
  have okx : okT s.x := by unfold okT maxLen; omega
  have okE : ∀ F y z, hold l F y z → okT y := fun F y z h => (hold_ok ok h).1
  have okS : ∀ F y z, stepE (hold l) s F y z → okT y := fun F y z h => by
    unfold stepE at h
    split at h
    · rcases h with h | h
      · rw [h.2.1]; exact okx
      · exact okE F y z h.2
    · exact okE F y z h
  refine (b.two.put (s := s) hb (by omega) (by omega)).mono ?_
  rintro e w' ⟨o, c, rfl, kb, h⟩
  refine ⟨o, c, rfl, kb, ?_⟩
  rcases h with ⟨c0, _, t⟩ | ⟨rfl, v, old, t⟩
  · exact .inl ⟨c0, t.more (by omega), b.eU, b.fU, b.cU, b.few⟩
  · refine .inr ⟨rfl, ⟨t, b.eU, b.fU, b.cU, b.few⟩, ?_⟩
    rcases old with ho | ⟨rfl, no⟩
    · obtain ⟨_, o0, o2, _⟩ := hold_ok ok ho
      refine .inr ⟨o0, (t.put (s := ⟨s.f, s.x, o⟩) (Below.refl _ _) (by omega) (by show s.x.size ≤ _; omega)).mono ?_⟩
      rintro e w'' ⟨o', c', rfl, _, h⟩
      refine ⟨o', c', rfl, ?_⟩
      rcases h with ⟨_, nv, _⟩ | ⟨_, _, _, t2⟩
      · exact absurd ⟨v.1, o0, o2⟩ nv
      · exact ⟨t2.congr (step_back v ho o0 o2 (fun z hz => b.two.uniq hz ho)), b.eU, b.fU, b.cU, b.few⟩
    · refine .inl ⟨rfl, (t.drop (f := s.f) (x := s.x) (q := s.q) (by omega) okS (rfc_size v.1) (by unfold stepE; rw [if_pos v]; exact .inl ⟨rfl, rfl, rfl⟩)).mono ?_⟩
      rintro e w'' ⟨rfl, _, t2⟩
      exact ⟨rfl, (t2.congr (step_drop v no)).more (by omega), b.eU, b.fU, b.cU, b.few⟩
theorem Bd.leave (b : Bd w2 wx tb m r P l (lft l i) tb' m' r' nfU U) (hP : P ≤ 1000) (ok : ∀ s ∈ l, okT s.x) (hi : l[i]? = some s) :
    Calls Tryz.prog 11 #[ptr tb, .string s.x] wx fun e w' => ∃ c : Nat, e = .returned (.int .i64 (c : Int)) ∧ Bd w2 w' tb m r P l (lft l (i + 1)) tb' m' r' nfU U := by
  refine (b.two.leave (by omega) (fun F y z h => (hold_ok ok h.1).1) (ok s (List.mem_of_getElem? hi))).mono ?_
  rintro e w' ⟨c, rfl, t⟩
  refine ⟨c, rfl, t.congr (fun F y z => ?_), b.eU, b.fU, b.cU, b.few⟩
  unfold lft
  constructor
  · rintro ⟨⟨h1, h2⟩, h3⟩
    refine ⟨h1, fun j s' hj hs => ?_⟩
    by_cases c : j = i
    · subst c
      rw [hi] at hs
      cases hs
      exact h3
    · exact h2 j s' (by omega) hs
  · rintro ⟨h1, h2⟩
    exact ⟨⟨h1, fun j s' hj hs => h2 j s' (by omega) hs⟩, h2 i s (by omega) hi⟩
theorem Bd.ends (b : Bd w2 wx tb m r P l (lft l l.length) tb' m' r' nfU U) (ok : ∀ s ∈ l, okT s.x) : Calls Tryz.prog 12 #[ptr tb] wx (fun e w' => e = .returned (.int .i64 1) ∧ w' = wx) ∧ Calls Tryz.prog 13 #[ptr tb] wx (fun e w' => e = .returned (.int .i64 0) ∧ w' = wx) := by
  refine b.two.nodes (fun F y z h => ?_)
  obtain ⟨_, _, _, s, hs, e⟩ := hold_ok ok h.1
  obtain ⟨j, hj⟩ := List.getElem?_of_mem hs
  exact h.2 j s (List.getElem?_eq_some_iff.1 hj).1 hj e.symm
end Go.Proofs.YtepjcfhbbcaldaaGreat.Li
namespace Go.Proofs.YtepjcfhbbcaldaaGreat.Li
open Go Go.RowKit
set_option linter.unusedSimpArgs false
set_option linter.unusedVariables false
set_option maxRecDepth 100000 in
set_option maxHeartbeats 16000000 in
/-- SUBTRIEBOUND. -/
theorem boundL_any {w : World} {v v2 : Value} {l l2 : List Sb} (h : SbAt w v l) (h2 : SbAt w v2 l2) (hx : ∀ s ∈ l, s.f.size ≤ 140737488355328 ∧ s.x.size ≤ 140737488355328) (hx2 : ∀ s ∈ l2, s.f.size ≤ 140737488355328 ∧ s.x.size ≤ 140737488355328) :
    Calls Tryz.prog 3 #[v, v2] w fun e w' => e = .returned (.bool true) ∧ Below w.heap.size w w' := by
  obtain ⟨a, n, cap, rfl, hn, hc, hrow⟩ := id h.ex
  obtain ⟨a2, n2, cap2, rfl, hn2, hc2, hrow2⟩ := id h2.ex
  have ba := (Below.refl w.heap.size w).alloc (Nat.le_refl _) (.cells #[.slice a n cap, .slice a2 n2 cap2] 22)
  have BA := hidi ba
  have SM := hidi (small2_any (h.below ba) (h2.below ba) (lb := w.heap.size) (by simp) (box_cells (heap_alloc_new w (.cells #[.slice a n cap, .slice a2 n2 cap2] 22)) 0 _ rfl) (box_cells (heap_alloc_new w (.cells #[.slice a n cap, .slice a2 n2 cap2] 22)) 1 _ rfl) hx hx2)
  have KN := hidi (fun w => known_any w)
  have LA := hidi (fun (w1 : World) (hb : Below w.heap.size w w1) (hl : l.length ≤ 60) (sm : sumS l + sumS l2 ≤ 60000) => laid_any (h.below hb) (by omega) (fun s hs' => by have := sumS_mem hs'; omega))
  have HR := hidi hrow
  have HR2 := hidi hrow2
  have HN := hidi (And.intro hn hc)
  have HN2 := hidi (And.intro hn2 hc2)
  clear h h2 hx hx2 hrow hrow2 ba hn hc hn2 hc2
  unfold ptr at *
  go_enter Tryz.func3, Tryz.ntmps3
  go_upto_region 2 with (go_at_call 4; refine SM.out.mono ?_; rintro e w1 ⟨b, rfl, sm, hb⟩; have S1 := hidi sm; have B1 := hidi (BA.out.trans (hb.mono BA.out.size)); clear sm hb SM; cases b)
  · go_wp2_with fail
    go_ret
    exact ⟨rfl, B1.out⟩
  · obtain ⟨s60, t60, sum⟩ := S1.out rfl
    have S2 := hidi (And.intro s60 (And.intro t60 sum))
    have OK := hidi (show ∀ s ∈ l, okT s.x from fun s hs => by have := sumS_mem hs; unfold okT maxLen; omega)
    have OK2 := hidi (show ∀ s ∈ l2, s.x.size ≤ 60000 from fun s hs => by have := sumS_mem hs; omega)
    clear S1 s60 t60 sum
    go_upto_region 9 with (first
      | (go_at_call 5; refine (KN.out _).mono ?_; rintro e w2 ⟨rfl, hb⟩; have B2 := hidi (B1.out.trans (hb.mono B1.out.size)); have LA1 := hidi (LA.out w2 B2.out S2.out.1 S2.out.2.2); clear hb KN; unfold ptr at LA1)
      | (go_at_call 6; refine LA1.out.mono ?_; rintro e w3 ⟨tb, m, r, rfl, ld⟩; have L1 := hidi ld; have LA2 := hidi (LA.out w3 (B2.out.trans (ld.be.mono B2.out.size)) S2.out.1 S2.out.2.2); clear ld LA1 LA; unfold ptr at LA2)
      | (go_at_call 6; refine LA2.out.mono ?_; rintro e w4 ⟨tb', m', r', rfl, ld⟩; have L2 := hidi ld; clear ld LA2))
    obtain ⟨nfU, U, tw, eU, fU, cU, few⟩ := two_of L1.out L2.out
    have B0 : Hid (Bd w2 w4 tb m r (l.length + 2 * 0) l (hold l) tb' m' r' nfU U) := ⟨tw, eU, fU, cU, fun f hf => by have := few f hf; have := S2.out.1; omega⟩
    clear tw eU fU cU few L1 L2
    go_wp2_with fail
    go_loopg [9] n2 (fun gg s9 wx => ∃ i : Nat, i ≤ n2 ∧ gg = n2 - i ∧ s9 = .int .i64 (i : Int) ∧ Hid (Bd w2 wx tb m r (l.length + 2 * i) l (hold l) tb' m' r' nfU U))
    case atStart => exact ⟨0, Nat.zero_le _, rfl, rfl, B0⟩
    case round =>
      clear B0
      obtain ⟨i, hi, rfl, rfl, X⟩ := hrel
      by_cases lt : i < n2
      · have lt' : (i : Int) < n2 := by omega
        obtain ⟨s, hs⟩ : ∃ s, l2[i]? = some s := ⟨_, List.getElem?_eq_getElem (by have := HN2.out.1; omega)⟩
        obtain ⟨lg, lo, rfl, hg, hcl⟩ := HR2.out (fun e => by subst e; simp at hs)
        obtain ⟨z1, z2, z3⟩ := hcl i s hs
        have bb := B2.out.trans (X.out.two.be.mono B2.out.size)
        have x1 : wr.cell? ⟨lg, lo + i * 3, none⟩ = some (.string s.f) := by rw [bb.cell (by exact hg)]; exact z1
        have x2 : wr.cell? ⟨lg, lo + i * 3 + 1, none⟩ = some (.string s.x) := by rw [bb.cell (by exact hg)]; exact z2
        have x3 : wr.cell? ⟨lg, lo + i * 3 + 2, none⟩ = some (.int .i64 s.q) := by rw [bb.cell (by exact hg)]; exact z3
        have hwi : IntKind.i64.wrap ((i : Int) + 1) = (i : Int) + 1 := by rw [IntKind.wrap_i64]; have := S2.out.2.1; have := HN2.out.1; omega
        have PB : Hid (l.length + 2 * i ≤ 180 ∧ n2 ≤ 60) := by show _ ∧ _; have := S2.out; have := HN2.out.1; omega
        have PU := hidi (fun (wy : World) (hb : Below wr.heap.size wr wy) => X.out.put (s := s) (by have := PB.out; omega) OK.out (OK2.out s (List.mem_of_getElem? hs)) wy hb)
        clear hs hg hcl z1 z2 z3 bb X
        unfold ptr at PU
        go_upto_region 14 with (go_at_call 7; refine (PU.out _ ((Below.refl _ _).alloc (Nat.le_refl _) _)).mono ?_; rintro e wp ⟨o, c, rfl, kb, cs⟩; have CS := hidi cs; have BX := hidi (kb wr.heap.size #[.string s.f, .string s.x, .int .i64 s.q] (heap_alloc_new wr _)); clear kb cs PU)
        have NXT : ∀ {wz : World}, Bd w2 wz tb m r (l.length + 2 * i + 2) l (hold l) tb' m' r' nfU U → Bd w2 wz tb m r (l.length + 2 * (i + 1)) l (hold l) tb' m' r' nfU U := fun {wz} h => by
          rw [show l.length + 2 * (i + 1) = l.length + 2 * i + 2 by omega]
          exact h
        have OKE := hidi (show ∀ F y z, hold l F y z → okT y from fun F y z h => (hold_ok OK.out h).1)
        rcases CS.out with ⟨c0, X2⟩ | ⟨rfl, X1, od⟩
        · have ne : (c != 0) = true := by simpa using c0
          have X3 := hidi (NXT X2)
          clear CS BX X2 NXT
          go_wp2_with fail
          go_roundg (n2 - (i + 1))
          case measure => omega
          case rel => exact ⟨i + 1, by omega, rfl, by simp, X3⟩
        · have BN := hidi (X1.bound (by have := PB.out; omega))
          have k0 := box_cells BX.out 0 _ rfl
          have k1 := box_cells BX.out 1 _ rfl
          clear CS BX X1
          unfold ptr at BN
          go_upto_region 17 with (go_at_call 8; refine BN.out.mono ?_; rintro e w' ⟨rfl, he⟩; obtain rfl := he.symm; clear BN)
          rcases od with ⟨rfl, dr⟩ | ⟨o0, pt⟩
          · have DR := hidi dr
            clear dr
            go_wp2_with (first
              | (go_at_call 9; refine DR.out.mono ?_; rintro e wd ⟨rfl, b⟩; have SA := hidi (Bd.same (NXT b) (by have := PB.out; omega) OKE.out); clear b DR k0 k1; unfold ptr at SA)
              | (go_at_call 10; refine SA.out.mono ?_; rintro e we ⟨rfl, b⟩; have X3 := hidi b; clear b SA))
            go_roundg (n2 - (i + 1))
            case measure => omega
            case rel => exact ⟨i + 1, by omega, rfl, by simp, X3⟩
          · have DR := hidi pt
            have o0' : ¬ o < 0 := by omega
            clear pt
            go_wp2_with (first
              | (go_at_call 7; refine DR.out.mono ?_; rintro e wd ⟨o', c', rfl, b⟩; have SA := hidi (Bd.same (NXT b) (by have := PB.out; omega) OKE.out); clear b DR k0 k1; unfold ptr at SA)
              | (go_at_call 10; refine SA.out.mono ?_; rintro e we ⟨rfl, b⟩; have X3 := hidi b; clear b SA))
            go_roundg (n2 - (i + 1))
            case measure => omega
            case rel => exact ⟨i + 1, by omega, rfl, by simp, X3⟩
      · have lt' : ¬ (i : Int) < n2 := by omega
        obtain rfl : i = n2 := by omega
        have X0 : Hid (Bd w2 wr tb m r (l.length + 2 * i) l (lft l 0) tb' m' r' nfU U) := ⟨X.out.two.congr (fun F y z => ⟨fun h => ⟨h, fun j s hj _ => by omega⟩, fun h => h.1⟩), X.out.eU, X.out.fU, X.out.cU, X.out.few⟩
        have PB : Hid (l.length + 2 * i ≤ 180 ∧ n ≤ 60) := by show _ ∧ _; have := S2.out; have := HN2.out.1; have := HN.out.1; omega
        clear X
        go_wp2_with fail
        go_loopg [13] n (fun gg s13 wx => ∃ j : Nat, j ≤ n ∧ gg = n - j ∧ s13 = .int .i64 (j : Int) ∧ Hid (Bd w2 wx tb m r (l.length + 2 * i) l (lft l j) tb' m' r' nfU U))
        case atStart => exact ⟨0, Nat.zero_le _, rfl, rfl, X0⟩
        case round =>
          clear X0
          obtain ⟨j, hj, rfl, rfl, Y⟩ := hrel
          by_cases lj : j < n
          · have lj' : (j : Int) < n := by omega
            obtain ⟨s, hs⟩ : ∃ s, l[j]? = some s := ⟨_, List.getElem?_eq_getElem (by have := HN.out.1; omega)⟩
            obtain ⟨lg, lo, rfl, hg, hcl⟩ := HR.out (fun e => by subst e; simp at hs)
            obtain ⟨z1, z2, z3⟩ := hcl j s hs
            have bb := B2.out.trans (Y.out.two.be.mono B2.out.size)
            have x2 : wr.cell? ⟨lg, lo + j * 3 + 1, none⟩ = some (.string s.x) := by rw [bb.cell (by exact hg)]; exact z2
            have hwj : IntKind.i64.wrap ((j : Int) + 1) = (j : Int) + 1 := by rw [IntKind.wrap_i64]; have := PB.out; omega
            have LV := hidi (Y.out.leave (by have := PB.out; omega) OK.out hs)
            clear hs hg hcl z1 z2 z3 bb Y
            unfold ptr at LV
            go_wp2_with (first
              | (go_at_call 11; refine LV.out.mono ?_; rintro e wp ⟨c, rfl, b⟩; have X2 := hidi b; have BN := hidi (b.bound (by have := PB.out; omega)); clear b LV; unfold ptr at BN)
              | (go_at_call 8; refine BN.out.mono ?_; rintro e w' ⟨rfl, he⟩; obtain rfl := he.symm; clear BN))
            go_roundg (n - (j + 1))
            case measure => omega
            case rel => exact ⟨j + 1, by omega, rfl, by simp, X2⟩
          · have lj' : ¬ (j : Int) < n := by omega
            obtain rfl : j = n := by omega
            have y := Y.out
            have bel := B2.out.trans (y.two.be.mono B2.out.size)
            have e := HN.out.1
            rw [e] at y
            obtain ⟨N1, N2⟩ := y.ends OK.out
            have E1 := hidi N1
            have E2 := hidi N2
            have BE := hidi bel
            clear y Y N1 N2 bel e
            unfold ptr at E1 E2
            go_wp2_with (first
              | (go_at_call 12; refine E1.out.mono ?_; rintro e w' ⟨rfl, he⟩; obtain rfl := he.symm)
              | (go_at_call 13; refine E2.out.mono ?_; rintro e w' ⟨rfl, he⟩; obtain rfl := he.symm))
            go_ret
            exact ⟨rfl, BE.out⟩
end Go.Proofs.YtepjcfhbbcaldaaGreat.Li
