import Derived.Test.YtglnldopnoafoaaWh
import Derived.Test.YtglnldopnoafoaaShelh
import Derived.OwnWalk
namespace Go.Proofs.Ytglnldopnoafoaa
open Go Go.RowKit
set_option linter.unusedSimpArgs false
set_option linter.unusedVariables false

theorem split_count : ∀ (l : Bs), (split l).length = l.count 47 + 1
  | [] => by simp [split]
  | c :: r => by
    have ih := split_count r
    by_cases hc : c = 47
    · subst hc; rw [split_slash]; simp [ih]
    · obtain ⟨h, t, e⟩ := split_some r
      rw [split_plain c r h t hc e]
      rw [e] at ih
      simp only [List.length_cons] at ih ⊢
      rw [ih, List.count_cons_of_ne (by simpa using hc)]
theorem levels_count (s : ByteArray) : (levels s).length = Lib.countByte s.data.toList 47 + 1 := by
  have := congrArg List.length (levels_split s)
  rw [List.length_map] at this
  rw [this, split_count]
  rfl
theorem lvs_pos (s : ByteArray) : ∀ (b f i : Nat), 0 < (lvs s b f i).length
  | 0, f, i => by simp [lvs]
  | b + 1, f, i => by
    unfold lvs
    split
    · split
      · simp
      · exact lvs_pos s b f (i + 1)
    · simp
set_option maxRecDepth 100000 in
set_option maxHeartbeats 2000000 in
theorem tlevels_cap (s : ByteArray) (hs : s.size ≤ 1000000) (w : World) : Calls Try.prog 36 #[.string s] w fun e w' => e = .returned (.slice (some ⟨w.heap.size, 0, none⟩) (levels s).length (levels s).length) ∧ w'.ownsRow w.heap.size 9 1 (.slice (some ⟨w.heap.size, 0, none⟩) (levels s).length (levels s).length) (levels s).length ((levels s).map Value.string) ∧ Below w.heap.size w w' := by
  obtain ⟨i0, hi, hz0, hz1, hz2⟩ : ∃ i0, Try.prog.info? 9 = some i0 ∧ i0.zero = some (.string ⟨#[]⟩) ∧ i0.size = 1 ∧ i0.bytes = 16 := ⟨_, rfl, rfl, rfl, rfl⟩
  have HS : Hid (s.size ≤ 1000000) := hs
  have HT : Hid (levels s = [] ++ lvs s s.size 0 0) := rfl
  obtain ⟨n, hn, hn2⟩ : ∃ n : Nat, Lib.countByte s.data.toList 47 = n ∧ n ≤ 1000000 := ⟨_, rfl, Nat.le_trans (countB s 47) hs⟩
  have HLN : Hid ((levels s).length = n + 1) := by show _ = _; rw [← hn]; exact levels_count s
  have hw : IntKind.i64.wrap ((n : Int) + 1) = (n : Int) + 1 := by rw [IntKind.wrap_i64]; omega
  obtain ⟨wm, hmk, hom, hgm⟩ := run_make_own (P := Try.prog) w w.heap.size 27 9 i0 (.string ⟨#[]⟩) 1 Try.underlying27 hi hz0 hz1 .i64 .i64 (n + 1) (by rw [hz2]; omega) (by unfold maxLen; omega) (Nat.le_refl _)
  have hmk' : (Instr.makeSlice 27 (.int .i64 0) (.int .i64 ((n : Int) + 1))).run Try.prog w = .ok (.slice (some ⟨w.heap.size, 0, none⟩) 0 (n + 1)) wm := hmk
  have bm : Below w.heap.size w wm := ⟨hgm.os, hgm.tape, hgm.output, hgm.size, fun k hk => hgm.block k hk (fun e => by cases e)⟩
  have I0 : Hid ((wm.iter s 0).heap[wm.heap.size]? = some (.stringIter s 0)) := World.iter_heap wm s 0
  have B0 : Hid (Below w.heap.size w (wm.iter s 0)) := bm.trans ((below_iter wm s 0).mono bm.size)
  have O0 : Hid ((wm.iter s 0).ownsRow w.heap.size 9 1 (.slice (some ⟨w.heap.size, 0, none⟩) 0 (n + 1)) 0 []) := hom.alloc _
  have HL0 : Hid (w.heap.size ≤ wm.heap.size) := bm.size
  clear hs hn2 hmk hom hgm bm
  go_enter Try.func36, Try.ntmps36
  go_wp2_with (go_at_call 57; refine (Try.strings_Count_one s 47 _).mono ?_; rintro e w' ⟨rfl, hee⟩; obtain rfl := hee.symm; clear hee; rw [hn])
  clear hmk'
  go_loopg [3, 4] s.size (fun g s3 s4 wx => ∃ (f i b : Nat) (xs : List ByteArray), s3 = .slice (some ⟨w.heap.size, 0, none⟩) xs.length (n + 1) ∧ f ≤ i ∧ i ≤ s.size ∧ g = s.size - i ∧ s4 = .int .i64 f ∧ Hid (wx.heap[wm.heap.size]? = some (.stringIter s i)) ∧ Hid (wx.ownsRow w.heap.size 9 1 s3 xs.length (xs.map Value.string)) ∧ Hid (Below w.heap.size w wx) ∧ Hid (levels s = xs ++ lvs s b f i) ∧ Hid (s.size ≤ i + b) ∧ Hid (xs.length ≤ i))
  case atStart => exact ⟨0, 0, s.size, [], rfl, Nat.le_refl _, Nat.zero_le _, rfl, rfl, I0, O0, B0, HT, by show _ ≤ _; omega, Nat.le_refl _⟩
  case round =>
    obtain ⟨f, i, b, xs, rfl, hfi, hisz, rfl, rfl, HI, HO, HB, HL, HF, HN⟩ := hrel
    by_cases hlt : i < s.size
    · obtain ⟨r, m, hd⟩ : ∃ r m, Utf8.decode s i = (r, m) := ⟨_, _, rfl⟩
      obtain ⟨m1, m2, m3, m4, m5⟩ := rune_at s i r m hlt hd
      have hnx := fun ty => next_at HI.out ty hlt r m hd
      have hit2 := setIt_heap (k' := i + m) HI.out
      have B2 := setIt_below HB.out wm.heap.size HL0.out s (i + m)
      have O2 := row_setIt (k' := i + m) HO.out HI.out
      generalize setIt wr wm.heap.size s (i + m) = w2 at *
      have HB2 : Hid (Below w.heap.size w w2) := B2
      have HI2 : Hid (w2.heap[wm.heap.size]? = some (.stringIter s (i + m))) := hit2
      have HO2 : Hid (w2.ownsRow w.heap.size 9 1 _ xs.length (xs.map Value.string)) := O2
      clear B2 hit2 O2 hd HI HO HB
      have hw1 : IntKind.i64.wrap ((i : Int) + 1) = (i : Int) + 1 := by rw [IntKind.wrap_i64]; have := HS.out; omega
      by_cases h47 : r = 47
      · obtain rfl := m4 h47
        have HC : Hid (atB s i = 47) := m3.1 h47
        subst h47
        have hfi' : (f : Int) ≤ i := by omega
        have hisz' : (i : Int) ≤ s.size := by omega
        clear m1 m2 m3 m4 m5
        have HR : Hid (xs.length + 1 ≤ n + 1) := by
          have h1 := congrArg List.length HL.out
          rw [HLN.out, List.length_append] at h1
          have h2 : 0 < (lvs s b f i).length := lvs_pos s b f i
          show _ ≤ _
          omega
        go_wp2_with (at_builtin; refine wpList_append_fits _ rfl (.tmp 19) (.tmp 24) 27 rfl w.heap.size 9 i0 1 Try.underlying27 hi hz1 w.heap.size xs.length (n + 1) (xs.map Value.string) rfl (HO2.out.alloc _) ⟨_, 0, none⟩ 1 1 [.string (s.extract f i)] rfl rfl (cell_one_new _ _ _) (by intro u hu; simp at hu; subst hu; rfl) HR.out ?_)
        intro w3 hown2 hgrow2
        have hb2 := (HB2.out.alloc HB2.out.size _).grown hgrow2 (by have := HB2.out.size; simp; omega) (by intro q hq; exact (HO2.out.lt _ hq).1)
        have hi3 := iter_grown (g := wm.heap.size) (k := i + 1) (s := s) ((Below.heap_alloc _ _ _ (block_lt HI2.out)).trans HI2.out) hgrow2 (row_iter HO2.out HI2.out)
        obtain ⟨b', e1, e2⟩ := lvs_cut s b f i hlt HF.out HC.out
        have HI3 : Hid (w3.heap[wm.heap.size]? = some (.stringIter s (i + 1))) := hi3
        have HO3 : Hid (w3.ownsRow w.heap.size 9 1 (.slice (some ⟨w.heap.size, 0, none⟩) (xs.length + 1) (n + 1)) (xs ++ [s.extract f i]).length ((xs ++ [s.extract f i]).map Value.string)) := by show World.ownsRow _ _ _ _ _ _ _; simpa using hown2
        have HB3 : Hid (Below w.heap.size w w3) := hb2
        have HL3 : Hid (levels s = (xs ++ [s.extract f i]) ++ lvs s b' (i + 1) (i + 1)) := by show _ = _; rw [HL.out, e1]; simp
        have HF3 : Hid (s.size ≤ i + 1 + b') := e2
        have HN3 : Hid ((xs ++ [s.extract f i]).length ≤ i + 1) := by show _ ≤ _; have := HN.out; simp; omega
        clear hown2 hgrow2 hb2 e1 e2 hi3
        go_wp2
        go_roundg (s.size - (i + 1))
        case measure => omega
        case rel => exact ⟨i + 1, i + 1, b', xs ++ [s.extract f i], by simp, Nat.le_refl _, by omega, by omega, by first | rfl | simp, HI3, HO3, HB3, HL3, HF3, HN3⟩
      · have h47' : ((r : Int) == 47) = false := by rw [beq_eq_false_iff_ne]; omega
        obtain ⟨b', e1, e2⟩ := lvs_skip s f m b i m2 HF.out (m5 h47)
        have HL3 : Hid (levels s = xs ++ lvs s b' f (i + m)) := by show _ = _; rw [HL.out, e1]
        have HF3 : Hid (s.size ≤ i + m + b') := e2
        have HN3 : Hid (xs.length ≤ i + m) := Nat.le_trans HN.out (by omega)
        have HM : Hid (1 ≤ m ∧ i + m ≤ s.size) := ⟨m1, m2⟩
        clear h47 e1 e2 m1 m2 m3 m4 m5
        go_wp2
        go_roundg (s.size - (i + m))
        case measure => have := HM.out; omega
        case rel => exact ⟨f, i + m, b', xs, rfl, by omega, HM.out.2, by omega, rfl, HI2, HO2, HB2, HL3, HF3, HN3⟩
    · obtain rfl : i = s.size := by omega
      have hnx := fun ty => next_end HI.out ty hlt
      have hfi' : (f : Int) ≤ s.size := by omega
      have HE : Hid (levels s = xs ++ [s.extract f s.size]) := by show _ = _; rw [HL.out, lvs_end s b f _ hlt]
      have HR : Hid (xs.length + 1 = n + 1 ∧ (levels s).length = xs.length + 1) := by
        have h1 := congrArg List.length HE.out
        simp only [List.length_append, List.length_cons, List.length_nil] at h1
        have h2 := HLN.out
        exact ⟨by omega, by omega⟩
      go_wp2_with (at_builtin; refine wpList_append_fits _ rfl (.tmp 28) (.tmp 32) 27 rfl w.heap.size 9 i0 1 Try.underlying27 hi hz1 w.heap.size xs.length (n + 1) (xs.map Value.string) rfl (HO.out.alloc _) ⟨_, 0, none⟩ 1 1 [.string (s.extract f s.size)] rfl rfl (cell_one_new _ _ _) (by intro u hu; simp at hu; subst hu; rfl) (Nat.le_of_eq HR.out.1) ?_)
      intro w2 hown2 hgrow2
      have hb2 := (HB.out.alloc HB.out.size _).grown hgrow2 (by have := HB.out.size; simp; omega) (by intro q hq; exact (HO.out.lt _ hq).1)
      have HO2 : Hid (w2.ownsRow w.heap.size 9 1 (.slice (some ⟨w.heap.size, 0, none⟩) (xs.length + 1) (n + 1)) (levels s).length ((levels s).map Value.string)) := by show World.ownsRow _ _ _ _ _ _ _; rw [HE.out]; simpa using hown2
      have HB2 : Hid (Below w.heap.size w w2) := hb2
      clear hown2 hgrow2 hb2
      go_wp2
      go_ret
      have h3 := HR.out
      rw [h3.2] at HO2 ⊢
      rw [h3.1] at HO2 ⊢
      exact ⟨by first | rfl | (rw [← h3.1]; rfl) | simp_all, HO2.out, HB2.out⟩
end Go.Proofs.Ytglnldopnoafoaa
