import Derived.Test.YtdanjbbemmngnaaDoorSa
import Derived.Test.YtdanjbbemmngnaaDoorFb
import Derived.Test.YtdanjbbemmngnaaDoorShelf
import Derived.Test.YtdanjbbemmngnaaDoorTa
namespace Go.Proofs.YtdanjbbemmngnaaDoor
open Go Go.RowKit Go.Sort
set_option linter.unusedSimpArgs false
set_option linter.unusedVariables false

theorem getD_range {α : Type} (z : Nat → α) (d : α) (n j : Nat) (h : j < n) : ((List.range n).map z).getD j d = z j := by simp [List.getD, h]
theorem map_range_eq {α : Type} (z z' : Nat → α) (n : Nat) : (List.range n).map z = (List.range n).map z' ↔ ∀ i, i < n → z i = z' i := by
  constructor
  · intro h i hi
    have := congrArg (fun l => l[i]?) h
    simpa [hi] using this
  · intro h
    exact List.map_congr_left fun i hi => h i (List.mem_range.1 hi)

theorem ints_same (s s' : Sl) (z z' : Nat → Int) (w : World) (h : Is w s z) (h' : Is w s' z') (hm : s.n ≤ 9223372036854775807) (hm' : s'.n ≤ 9223372036854775807) :
    Calls Tryd.prog 26 #[s.v, s'.v] w fun e w' => e = .returned (.bool (iEq z s.n z' s'.n)) ∧ Below w.heap.size w w' := by
  obtain ⟨a, n, c⟩ := s
  obtain ⟨a', n', c'⟩ := s'
  simp only at hm hm'
  simp only [Sl.v]
  by_cases hn : n = n'
  · subst hn
    obtain ⟨hle, h0 | ⟨b, off, he, hc⟩⟩ := h
    · simp only at h0
      subst h0
      refine (Tryd.slices_Equal_int_empty a a' c 0 c' w (by decide)).mono fun e w' ⟨he, hw⟩ => ⟨?_, by rw [hw]; exact Below.refl _ _⟩
      rw [he]; simp [iEq]
    · obtain ⟨hle', h0' | ⟨b', off', he', hc'⟩⟩ := h'
      · simp only at h0'
        subst h0'
        refine (Tryd.slices_Equal_int_empty a a' c 0 c' w (by decide)).mono fun e w' ⟨he, hw⟩ => ⟨?_, by rw [hw]; exact Below.refl _ _⟩
        rw [he]; simp [iEq]
      · simp only at he he' hc hc'
        subst he he'
        refine (Tryd.slices_Equal_int b off n c b' off' n c' ((List.range n).map z) ((List.range n).map z') w (by simp) (by simp) hm hm (fun j hj => ?_) (fun j hj => ?_)).mono fun e w' ⟨he, q, hw⟩ => ⟨?_, ?_⟩
        · simp at hj; rw [getD_range z 0 n j hj]; exact hc j hj
        · simp at hj; rw [getD_range z' 0 n j hj]; exact hc' j hj
        · rw [he]
          congr 2
          simp only [iEq, List.take_of_length_le, List.length_map, List.length_range, Nat.le_refl, true_and]
          exact Bool.eq_iff_iff.2 (by simp only [beq_iff_eq, decide_eq_true_eq, map_range_eq])
        · rw [hw]; exact below_drewN (Below.refl _ _) q
  · refine (Tryd.slices_Equal_int_lens a a' n c n' c' w hn).mono fun e w' ⟨he, hw⟩ => ⟨?_, by rw [hw]; exact Below.refl _ _⟩
    rw [he]; simp [iEq, hn]

theorem texts_same (s s' : Sl) (z z' : Nat → ByteArray) (w : World) (h : Ss w s z) (h' : Ss w s' z') (hm : s.n ≤ 9223372036854775807) (hm' : s'.n ≤ 9223372036854775807) :
    Calls Tryd.prog 27 #[s.v, s'.v] w fun e w' => e = .returned (.bool (tEq z s.n z' s'.n)) ∧ Below w.heap.size w w' := by
  obtain ⟨a, n, c⟩ := s
  obtain ⟨a', n', c'⟩ := s'
  simp only at hm hm'
  simp only [Sl.v]
  by_cases hn : n = n'
  · subst hn
    obtain ⟨hle, h0 | ⟨b, off, he, hc⟩⟩ := h
    · simp only at h0
      subst h0
      refine (Tryd.slices_Equal_string_empty a a' c 0 c' w (by decide)).mono fun e w' ⟨he, hw⟩ => ⟨?_, by rw [hw]; exact Below.refl _ _⟩
      rw [he]; simp [tEq]
    · obtain ⟨hle', h0' | ⟨b', off', he', hc'⟩⟩ := h'
      · simp only at h0'
        subst h0'
        refine (Tryd.slices_Equal_string_empty a a' c 0 c' w (by decide)).mono fun e w' ⟨he, hw⟩ => ⟨?_, by rw [hw]; exact Below.refl _ _⟩
        rw [he]; simp [tEq]
      · simp only at he he' hc hc'
        subst he he'
        refine (Tryd.slices_Equal_string b off n c b' off' n c' ((List.range n).map z) ((List.range n).map z') w (by simp) (by simp) hm hm (fun j hj => ?_) (fun j hj => ?_)).mono fun e w' ⟨he, q, hw⟩ => ⟨?_, ?_⟩
        · simp at hj; rw [getD_range z _ n j hj]; exact hc j hj
        · simp at hj; rw [getD_range z' _ n j hj]; exact hc' j hj
        · rw [he]
          congr 2
          simp only [tEq, List.take_of_length_le, List.length_map, List.length_range, Nat.le_refl, true_and]
          exact decide_eq_decide.2 (map_range_eq z z' n)
        · rw [hw]; exact below_drewN (Below.refl _ _) q
  · refine (Tryd.slices_Equal_string_lens a a' n c n' c' w hn).mono fun e w' ⟨he, hw⟩ => ⟨?_, by rw [hw]; exact Below.refl _ _⟩
    rw [he]; simp [tEq, hn]

theorem neq_ask (t t' : ByteArray) (q q' : Int) (w : World) : (binOp .neq 56 (.agg #[.string t, .int .i64 q]) (.agg #[.string t', .int .i64 q'])).run Tryd.prog w = .ok (.bool (!((t.toList == t'.toList) && (q == q')))) w := by
  have hu : Tryd.prog.underlying 56 = some (.struct (Tryd.prog.fieldsOf 56)) := by kernel_rfl
  have hp : Tryd.prog.stoodInHeld 56 = false := by kernel_rfl
  rw [run_neq_struct, run_equalIn_agg w 9999 56 _ _ hu hp]
  clear hu hp
  simp only [Program.fieldsOf, Tryd.underlying56]
  cases h1 : (t.toList == t'.toList)
  · go_simp
  · cases h2 : (q == q')
    · go_simp
    · go_simp

set_option maxHeartbeats 1000000 in
theorem asks_same (s s' : Sl) (f f' : Nat → ByteArray) (q q' : Nat → Int) (w : World) (h : As w s f q) (h' : As w s' f' q') (hm : s.n ≤ 9223372036854775807) (hm' : s'.n ≤ 9223372036854775807) :
    Calls Tryd.prog 25 #[s.v, s'.v] w fun e w' => e = .returned (.bool (aEq f q s.n f' q' s'.n)) ∧ Below w.heap.size w w' := by
  obtain ⟨a, n, c⟩ := s
  obtain ⟨a', n', c'⟩ := s'
  simp only at hm hm'
  simp only [Sl.v]
  by_cases hn : n = n'
  · subst hn
    have HA : Hid (As w ⟨a, n, c⟩ f q) := h
    have HB : Hid (As w ⟨a', n, c'⟩ f' q') := h'
    have EG : Tryd.prog.eqGuardType Tryd.prog.depth 56 = false := by kernel_rfl
    have B0 : Hid (Below w.heap.size w w) := Below.refl _ _
    clear h h'
    go_enter Tryd.func25, Tryd.ntmps25
    go_wp2_with fail
    go_loopg [13] n (fun gg s4 wx => ∃ (k : Nat), s4 = .int .i64 k ∧ k + gg = n ∧ Hid (Below w.heap.size w wx) ∧ Hid (∀ i, i < k → f i = f' i ∧ q i = q' i))
    case atStart => exact ⟨0, rfl, by omega, B0, fun i hi => absurd hi (Nat.not_lt_zero _)⟩
    case round =>
      obtain ⟨k, rfl, hkg, B1, S1⟩ := hrel
      by_cases hk : k < n
      · have hk' : (k : Int) < n := by omega
        obtain ⟨b, off, he, hc⟩ : ∃ b off, a = some ⟨b, off, none⟩ ∧ ∀ i, i < n → (w.cell? ⟨b, off + i * 2, none⟩ = some (.string (f i)) ∧ w.cell? ⟨b, off + i * 2 + 1, none⟩ = some (.int .i64 (q i))) := by
          rcases HA.out.2 with h | h
          · simp only at h; omega
          · exact h
        obtain ⟨b', off', he', hc'⟩ : ∃ b off, a' = some ⟨b, off, none⟩ ∧ ∀ i, i < n → (w.cell? ⟨b, off + i * 2, none⟩ = some (.string (f' i)) ∧ w.cell? ⟨b, off + i * 2 + 1, none⟩ = some (.int .i64 (q' i))) := by
          rcases HB.out.2 with h | h
          · simp only at h; omega
          · exact h
        subst he he'
        have hac : n ≤ c := HA.out.1
        have hac' : n ≤ c' := HB.out.1
        have c0 := cell_later B1.out (hc k hk).1
        have c1 := cell_later B1.out (hc k hk).2
        have d0 := cell_later B1.out (hc' k hk).1
        have d1 := cell_later B1.out (hc' k hk).2
        have EQ := neq_ask (f k) (f' k) (q k) (q' k)
        obtain ⟨gg, hg⟩ : ∃ gg, gk = gg + 1 := ⟨gk - 1, by omega⟩
        clear hc hc'
        cases hB : ((f k).toList == (f' k).toList && q k == q' k)
        · rw [hB] at EQ
          have HN : Hid (aEq f q n f' q' n = false) := by
            refine decide_eq_false fun hh => ?_
            have h2 := hh.2 k hk
            rw [h2.1, h2.2] at hB
            simp at hB
          clear hB
          go_wp2_with fail
          go_region
          all_goals
            go_wp2
            go_ret
            first | exact ⟨by rw [HN.out]; rfl, B1.out⟩ | exact ⟨by rw [HN.out]; rfl, B1.out.drew⟩
        · rw [hB] at EQ
          have HN : Hid (∀ i, i < k + 1 → f i = f' i ∧ q i = q' i) := fun i hi => by
            by_cases hik : i < k
            · exact S1.out i hik
            · obtain rfl : i = k := by omega
              rw [Bool.and_eq_true] at hB
              exact ⟨str_eq hB.1, by simpa using hB.2⟩
          clear hB
          go_wp2_with fail
          go_region
          all_goals
            go_wp2
            go_roundg gg
            case measure => omega
            case rel => exact ⟨k + 1, by first | rfl | simp, by omega, by first | exact B1 | exact B1.out.drew, HN⟩
      · obtain rfl : k = n := by omega
        have hk' : ¬ (k : Int) < k := by omega
        have HN : Hid (aEq f q k f' q' k = true) := decide_eq_true ⟨rfl, S1.out⟩
        go_wp2
        go_ret
        exact ⟨by rw [HN.out]; rfl, B1.out⟩
  · have hn' : ((n : Int) != n') = true := by simp; omega
    have HN : Hid (aEq f q n f' q' n' = false) := decide_eq_false fun hh => hn hh.1
    clear h h'
    go_enter Tryd.func25, Tryd.ntmps25
    go_wp2
    go_ret
    exact ⟨by rw [HN.out]; rfl, Below.refl _ _⟩
end Go.Proofs.YtdanjbbemmngnaaDoor
