import Derived.Test.YtglnldopnoafoaaGreatDoorWh
import Derived.Test.YtglnldopnoafoaaGreatDoorShelh
import Derived.OwnWalk
import Derived.Lib.LazyBuf
namespace Go.Proofs.YtglnldopnoafoaaGreatDoor
open Go Go.RowKit
set_option linter.unusedSimpArgs false
set_option linter.unusedVariables false

theorem split_count : ∀ (l : Bs), (split l).length = l.count 47 + 1
  | [] => by simp [split]
  | c :: r => by
    have ih := split_count r
    by_cases hc : c = 47
    · subst hc; rw [split_slash]; simp [ih]
    · obtain ⟨h, t, e⟩ := split_some r
      rw [split_plain c r h t hc e]
      rw [e] at ih
      simp only [List.length_cons] at ih ⊢
      rw [ih, List.count_cons_of_ne (by simpa using hc)]
theorem levels_count (s : ByteArray) : (levels s).length = Lib.countByte s.data.toList 47 + 1 := by
  have := congrArg List.length (levels_split s)
  rw [List.length_map] at this
  rw [this, split_count]
  rfl
theorem lvs_pos (s : ByteArray) : ∀ (b f i : Nat), 0 < (lvs s b f i).length
  | 0, f, i => by simp [lvs]
  | b + 1, f, i => by
    unfold lvs
    split
    · split
      · simp
      · exact lvs_pos s b f (i + 1)
    · simp
set_option maxRecDepth 100000 in
set_option maxHeartbeats 2000000 in
theorem tlevels_cap (s : ByteArray) (hs : s.size ≤ 1000000) (w : World) : Calls Tryz.prog 58 #[.string s] w fun e w' => e = .returned (.slice (some ⟨w.heap.size, 0, none⟩) (levels s).length (levels s).length) ∧ w'.ownsRow w.heap.size 9 1 (.slice (some ⟨w.heap.size, 0, none⟩) (levels s).length (levels s).length) (levels s).length ((levels s).map Value.string) ∧ Below w.heap.size w w' := by
  obtain ⟨i0, hi, hz0, hz1, hz2⟩ : ∃ i0, Tryz.prog.info? 9 = some i0 ∧ i0.zero = some (.string ⟨#[]⟩) ∧ i0.size = 1 ∧ i0.bytes = 16 := ⟨_, rfl, rfl, rfl, rfl⟩
  have HS : Hid (s.size ≤ 1000000) := hs
  have HT : Hid (levels s = [] ++ lvs s s.size 0 0) := rfl
  obtain ⟨n, hn, hn2⟩ : ∃ n : Nat, Lib.countByte s.data.toList 47 = n ∧ n ≤ 1000000 := ⟨_, rfl, Nat.le_trans (countB s 47) hs⟩
  have HLN : Hid ((levels s).length = n + 1) := by show _ = _; rw [← hn]; exact levels_count s
  have hw : IntKind.i64.wrap ((n : Int) + 1) = (n : Int) + 1 := by rw [IntKind.wrap_i64]; omega
  obtain ⟨wm, hmk, hom, hgm⟩ := run_make_own (P := Tryz.prog) w w.heap.size 22 9 i0 (.string ⟨#[]⟩) 1 Tryz.underlying22 hi hz0 hz1 .i64 .i64 (n + 1) (by rw [hz2]; omega) (by unfold maxLen; omega) (Nat.le_refl _)
  have hmk' : (Instr.makeSlice 22 (.int .i64 0) (.int .i64 ((n : Int) + 1))).run Tryz.prog w = .ok (.slice (some ⟨w.heap.size, 0, none⟩) 0 (n + 1)) wm := hmk
  have bm : Below w.heap.size w wm := ⟨hgm.os, hgm.tape, hgm.output, hgm.size, fun k hk => hgm.block k hk (fun e => by cases e)⟩
  have I0 : Hid ((wm.iter s 0).heap[wm.heap.size]? = some (.stringIter s 0)) := World.iter_heap wm s 0
  have B0 : Hid (Below w.heap.size w (wm.iter s 0)) := bm.trans ((below_iter wm s 0).mono bm.size)
  have O0 : Hid ((wm.iter s 0).ownsRow w.heap.size 9 1 (.slice (some ⟨w.heap.size, 0, none⟩) 0 (n + 1)) 0 []) := hom.alloc _
  have HL0 : Hid (w.heap.size ≤ wm.heap.size) := bm.size
  clear hs hn2 hmk hom hgm bm
  go_enter Tryz.func58, Tryz.ntmps58
  go_wp2_with (go_at_call 84; refine (Tryz.strings_Count_one s 47 _).mono ?_; rintro e w' ⟨rfl, hee⟩; obtain rfl := hee.symm; clear hee; rw [hn])
  clear hmk'
  go_loopg [3, 4] s.size (fun g s3 s4 wx => ∃ (f i b : Nat) (xs : List ByteArray), s3 = .slice (some ⟨w.heap.size, 0, none⟩) xs.length (n + 1) ∧ f ≤ i ∧ i ≤ s.size ∧ g = s.size - i ∧ s4 = .int .i64 f ∧ Hid (wx.heap[wm.heap.size]? = some (.stringIter s i)) ∧ Hid (wx.ownsRow w.heap.size 9 1 s3 xs.length (xs.map Value.string)) ∧ Hid (Below w.heap.size w wx) ∧ Hid (levels s = xs ++ lvs s b f i) ∧ Hid (s.size ≤ i + b) ∧ Hid (xs.length ≤ i))
  case atStart => exact ⟨0, 0, s.size, [], rfl, Nat.le_refl _, Nat.zero_le _, rfl, rfl, I0, O0, B0, HT, by show _ ≤ _; omega, Nat.le_refl _⟩
  case round =>
    obtain ⟨f, i, b, xs, rfl, hfi, hisz, rfl, rfl, HI, HO, HB, HL, HF, HN⟩ := hrel
    by_cases hlt : i < s.size
    · obtain ⟨r, m, hd⟩ : ∃ r m, Utf8.decode s i = (r, m) := ⟨_, _, rfl⟩
      obtain ⟨m1, m2, m3, m4, m5⟩ := rune_at s i r m hlt hd
      have hnx := fun ty => next_at HI.out ty hlt r m hd
      have hit2 := setIt_heap (k' := i + m) HI.out
      have B2 := setIt_below HB.out wm.heap.size HL0.out s (i + m)
      have O2 := row_setIt (k' := i + m) HO.out HI.out
      generalize setIt wr wm.heap.size s (i + m) = w2 at *
      have HB2 : Hid (Below w.heap.size w w2) := B2
      have HI2 : Hid (w2.heap[wm.heap.size]? = some (.stringIter s (i + m))) := hit2
      have HO2 : Hid (w2.ownsRow w.heap.size 9 1 _ xs.length (xs.map Value.string)) := O2
      clear B2 hit2 O2 hd HI HO HB
      have hw1 : IntKind.i64.wrap ((i : Int) + 1) = (i : Int) + 1 := by rw [IntKind.wrap_i64]; have := HS.out; omega
      by_cases h47 : r = 47
      · obtain rfl := m4 h47
        have HC : Hid (atB s i = 47) := m3.1 h47
        subst h47
        have hfi' : (f : Int) ≤ i := by omega
        have hisz' : (i : Int) ≤ s.size := by omega
        clear m1 m2 m3 m4 m5
        have HR : Hid (xs.length + 1 ≤ n + 1) := by
          have h1 := congrArg List.length HL.out
          rw [HLN.out, List.length_append] at h1
          have h2 : 0 < (lvs s b f i).length := lvs_pos s b f i
          show _ ≤ _
          omega
        go_wp2_with (at_builtin; refine wpList_append_fits _ rfl (.tmp 19) (.tmp 24) 22 rfl w.heap.size 9 i0 1 Tryz.underlying22 hi hz1 w.heap.size xs.length (n + 1) (xs.map Value.string) rfl (HO2.out.alloc _) ⟨_, 0, none⟩ 1 1 [.string (s.extract f i)] rfl rfl (cell_one_new _ _ _) (by intro u hu; simp at hu; subst hu; rfl) HR.out ?_)
        intro w3 hown2 hgrow2
        have hb2 := (HB2.out.alloc HB2.out.size _).grown hgrow2 (by have := HB2.out.size; simp; omega) (by intro q hq; exact (HO2.out.lt _ hq).1)
        have hi3 := iter_grown (g := wm.heap.size) (k := i + 1) (s := s) ((Below.heap_alloc _ _ _ (block_lt HI2.out)).trans HI2.out) hgrow2 (row_iter HO2.out HI2.out)
        obtain ⟨b', e1, e2⟩ := lvs_cut s b f i hlt HF.out HC.out
        have HI3 : Hid (w3.heap[wm.heap.size]? = some (.stringIter s (i + 1))) := hi3
        have HO3 : Hid (w3.ownsRow w.heap.size 9 1 (.slice (some ⟨w.heap.size, 0, none⟩) (xs.length + 1) (n + 1)) (xs ++ [s.extract f i]).length ((xs ++ [s.extract f i]).map Value.string)) := by show World.ownsRow _ _ _ _ _ _ _; simpa using hown2
        have HB3 : Hid (Below w.heap.size w w3) := hb2
        have HL3 : Hid (levels s = (xs ++ [s.extract f i]) ++ lvs s b' (i + 1) (i + 1)) := by show _ = _; rw [HL.out, e1]; simp
        have HF3 : Hid (s.size ≤ i + 1 + b') := e2
        have HN3 : Hid ((xs ++ [s.extract f i]).length ≤ i + 1) := by show _ ≤ _; have := HN.out; simp; omega
        clear hown2 hgrow2 hb2 e1 e2 hi3
        go_wp2
        go_roundg (s.size - (i + 1))
        case measure => omega
        case rel => exact ⟨i + 1, i + 1, b', xs ++ [s.extract f i], by simp, Nat.le_refl _, by omega, by omega, by first | rfl | simp, HI3, HO3, HB3, HL3, HF3, HN3⟩
      · have h47' : ((r : Int) == 47) = false := by rw [beq_eq_false_iff_ne]; omega
        obtain ⟨b', e1, e2⟩ := lvs_skip s f m b i m2 HF.out (m5 h47)
        have HL3 : Hid (levels s = xs ++ lvs s b' f (i + m)) := by show _ = _; rw [HL.out, e1]
        have HF3 : Hid (s.size ≤ i + m + b') := e2
        have HN3 : Hid (xs.length ≤ i + m) := Nat.le_trans HN.out (by omega)
        have HM : Hid (1 ≤ m ∧ i + m ≤ s.size) := ⟨m1, m2⟩
        clear h47 e1 e2 m1 m2 m3 m4 m5
        go_wp2
        go_roundg (s.size - (i + m))
        case measure => have := HM.out; omega
        case rel => exact ⟨f, i + m, b', xs, rfl, by omega, HM.out.2, by omega, rfl, HI2, HO2, HB2, HL3, HF3, HN3⟩
    · obtain rfl : i = s.size := by omega
      have hnx := fun ty => next_end HI.out ty hlt
      have hfi' : (f : Int) ≤ s.size := by omega
      have HE : Hid (levels s = xs ++ [s.extract f s.size]) := by show _ = _; rw [HL.out, lvs_end s b f _ hlt]
      have HR : Hid (xs.length + 1 = n + 1 ∧ (levels s).length = xs.length + 1) := by
        have h1 := congrArg List.length HE.out
        simp only [List.length_append, List.length_cons, List.length_nil] at h1
        have h2 := HLN.out
        exact ⟨by omega, by omega⟩
      go_wp2_with (at_builtin; refine wpList_append_fits _ rfl (.tmp 28) (.tmp 32) 22 rfl w.heap.size 9 i0 1 Tryz.underlying22 hi hz1 w.heap.size xs.length (n + 1) (xs.map Value.string) rfl (HO.out.alloc _) ⟨_, 0, none⟩ 1 1 [.string (s.extract f s.size)] rfl rfl (cell_one_new _ _ _) (by intro u hu; simp at hu; subst hu; rfl) (Nat.le_of_eq HR.out.1) ?_)
      intro w2 hown2 hgrow2
      have hb2 := (HB.out.alloc HB.out.size _).grown hgrow2 (by have := HB.out.size; simp; omega) (by intro q hq; exact (HO.out.lt _ hq).1)
      have HO2 : Hid (w2.ownsRow w.heap.size 9 1 (.slice (some ⟨w.heap.size, 0, none⟩) (xs.length + 1) (n + 1)) (levels s).length ((levels s).map Value.string)) := by show World.ownsRow _ _ _ _ _ _ _; rw [HE.out]; simpa using hown2
      have HB2 : Hid (Below w.heap.size w w2) := hb2
      clear hown2 hgrow2 hb2
      go_wp2
      go_ret
      have h3 := HR.out
      rw [h3.2] at HO2 ⊢
      rw [h3.1] at HO2 ⊢
      exact ⟨by first | rfl | (rw [← h3.1]; rfl) | simp_all, HO2.out, HB2.out⟩
end Go.Proofs.YtglnldopnoafoaaGreatDoor

namespace Go.Proofs.YtglnldopnoafoaaGreatDoor
open Go Go.RowKit
set_option linter.unusedSimpArgs false
set_option linter.unusedVariables false

/-- The world behind an insertion of one text into a row without room. -/
theorem insert_row (w : World) (n i G : Nat) (hi : i < n) (hG : n + 1 ≤ G) (xs : List ByteArray) (y : ByteArray) (hx : xs.length = n) (W : World) (hW : W = (((w.alloc (.cells (((xs.map Value.string).take i).toArray ++ Builtin.zeroCells (Value.string ⟨#[]⟩).cells (n + 1 - i) ++ Builtin.zeroCells (Value.string ⟨#[]⟩).cells (G - (n + 1))) 9)).drew.setCells w.heap.size i [Value.string y]).drew).setCells w.heap.size (i + 1) ((xs.map Value.string).drop i)) : Row W (.slice (some ⟨w.heap.size, 0, none⟩) (n + 1) G) (xs.take i ++ y :: xs.drop i) ∧ Below w.heap.size w W := by
  obtain ⟨ROW, hROW⟩ : ∃ ROW : Array Value, ROW = ((xs.map Value.string).take i).toArray ++ Builtin.zeroCells (Value.string ⟨#[]⟩).cells (n + 1 - i) ++ Builtin.zeroCells (Value.string ⟨#[]⟩).cells (G - (n + 1)) := ⟨_, rfl⟩
  rw [← hROW] at hW
  have hsz : n + 1 ≤ ROW.size := by
    rw [hROW]
    simp [Builtin.zeroCells, Value.cells, hx]
    omega
  have hR : ∀ k, k < i → ROW[k]? = some (Value.string (xs[k]?.getD ⟨#[]⟩)) := by
    intro k hk
    have hkx : k < xs.length := by omega
    rw [hROW, Array.append_assoc, Array.getElem?_append_left (by simp [hx]; omega)]
    simp [hk, hkx]
  obtain ⟨W1, hW1⟩ : ∃ W1, W1 = (w.alloc (.cells ROW 9)).drew := ⟨_, rfl⟩
  have c1 : ∀ k, W1.cell? ⟨w.heap.size, k, none⟩ = ROW[k]? := fun k => by rw [hW1]; exact World.cell?_alloc_at ROW 9 _ k rfl
  have s1 : ∀ k, k < n + 1 → (W1.cell? ⟨w.heap.size, k, none⟩).isSome = true := fun k hk => by rw [c1, Array.getElem?_eq_getElem (by omega)]; rfl
  obtain ⟨W2, hW2⟩ : ∃ W2, W2 = (W1.setCells w.heap.size i [Value.string y]).drew := ⟨_, rfl⟩
  rw [← hW1, ← hW2] at hW
  have c2 : ∀ x, W2.cell? x = (W1.setCells w.heap.size i [Value.string y]).cell? x := fun x => by rw [hW2]; rfl
  have c2i : W2.cell? ⟨w.heap.size, i, none⟩ = some (Value.string y) := by
    rw [c2]
    have := World.cell?_setCells_in w.heap.size [Value.string y] i W1 (fun j hj => s1 _ (by simp at hj; omega)) 0 (by simp)
    simpa using this
  have c2o : ∀ k, k ≠ i → W2.cell? ⟨w.heap.size, k, none⟩ = ROW[k]? := fun k hk => by
    rw [c2, World.cell?_setCells_out _ _ _ _ _ (fun _ _ => by simp; omega), c1]
  have s2 : ∀ k, k < n + 1 → (W2.cell? ⟨w.heap.size, k, none⟩).isSome = true := fun k hk => by
    by_cases e : k = i
    · rw [e, c2i]; rfl
    · rw [c2o k e, ← c1]; exact s1 k hk
  have hsW : W.heap.size = w.heap.size + 1 ∧ Below w.heap.size w W := by
    have b1 : Below w.heap.size w W1 := by rw [hW1]; exact ((Below.refl _ _).alloc (Nat.le_refl _) _).drew
    have b2 : Below w.heap.size w W2 := by rw [hW2]; exact (below_setCells (Nat.le_refl _) _ _ _ b1).drew
    have b3 : Below w.heap.size w W := by rw [hW]; exact below_setCells (Nat.le_refl _) _ _ _ b2
    refine ⟨?_, b3⟩
    have hz : ∀ (vs : List Value) (o : Nat) (u : World), (u.setCells w.heap.size o vs).heap.size = u.heap.size := by
      intro vs
      induction vs with
      | nil => intro o u; rfl
      | cons v r ih => intro o u; rw [World.setCells, ih]; simp [World.setCell]
    rw [hW, hz, hW2]
    show (W1.setCells w.heap.size i [Value.string y]).heap.size = _
    rw [hz, hW1]
    show (w.alloc (.cells ROW 9)).heap.size = _
    simp
  refine ⟨⟨_, _, _, rfl, by simp [hx]; omega, hG, fun _ => ⟨w.heap.size, 0, rfl, by rw [hsW.1]; omega, fun k x hk => ?_⟩⟩, hsW.2⟩
  rw [Nat.zero_add, hW]
  have hkn : k < n + 1 := by
    have := (List.getElem?_eq_some_iff.1 hk).1
    simp [hx] at this
    omega
  by_cases h1 : k < i
  · rw [World.cell?_setCells_out _ _ _ _ _ (fun _ _ => by left; show k < i + 1; omega), c2o k (by omega), hR k h1]
    rw [List.getElem?_append_left (by simp [hx]; omega)] at hk
    simp [h1] at hk
    simp [hk]
  · by_cases h2 : k = i
    · subst h2
      rw [World.cell?_setCells_out _ _ _ _ _ (fun _ _ => by left; show k < k + 1; omega), c2i]
      rw [List.getElem?_append_right (by rw [List.length_take]; omega)] at hk
      rw [List.length_take, hx, Nat.min_eq_left (Nat.le_of_lt hi), Nat.sub_self] at hk
      simp at hk
      rw [hk]
    · obtain ⟨j, rfl⟩ : ∃ j, k = i + 1 + j := ⟨k - (i + 1), by omega⟩
      have hj : j < ((xs.map Value.string).drop i).length := by simp [hx]; omega
      have := World.cell?_setCells_in w.heap.size ((xs.map Value.string).drop i) (i + 1) W2 (fun t ht => s2 _ (by simp [hx] at ht; omega)) j hj
      rw [this]
      rw [List.getElem?_append_right (by simp; omega)] at hk
      simp only [List.length_take, hx, Nat.min_eq_left (Nat.le_of_lt hi)] at hk
      rw [show i + 1 + j - i = j + 1 by omega, List.getElem?_cons_succ, List.getElem?_drop] at hk
      obtain ⟨hlt, hv⟩ := List.getElem?_eq_some_iff.1 hk
      simp [hv]
set_option maxRecDepth 100000 in
set_option maxHeartbeats 1000000 in
theorem lv_wrong (f : ByteArray) (h : ¬ rfc f = 0) (w : World) : Calls Tryz.prog 17 #[.string f] w fun e w' => ∃ v, e = .returned v ∧ Row w' v ((lvO f).map mkB) ∧ Below w.heap.size w w' ∧ ∀ g, v.ownBlock = some g → w.heap.size ≤ g := by
  rw [lvO_no h]
  have HC : Hid (Calls Tryz.prog 57 #[.string f] w fun e w' => e = .returned (.int .i64 (rfc f)) ∧ Below w.heap.size w w') := fcheck_any f w
  obtain ⟨c, hc⟩ : ∃ c, rfc f = c := ⟨_, rfl⟩
  rw [hc] at HC h
  have q : (c != 0) = true := by simp [h]
  have R0 : Hid (∀ W : World, Row W (.slice none 0 0) (([] : List Bs).map mkB)) := fun W => ⟨none, 0, 0, rfl, rfl, Nat.le_refl _, fun h => absurd rfl h⟩
  clear hc h
  go_enter Tryz.func17, Tryz.ntmps17
  go_wp2_with fail
  go_must (go_at_call 57)
  refine HC.out.mono ?_
  rintro e w1 ⟨rfl, hb⟩
  have HB : Hid (Below w.heap.size w w1) := hb
  clear hb
  go_wp2_with fail
  go_ret
  exact ⟨_, rfl, R0.out _, HB.out, fun g hg => by cases hg⟩
theorem lvO_plain {f : ByteArray} (h : rfc f = 0) (h1 : ¬ unB f = [35]) (h2 : ¬ unB f = [47, 35]) : (lvO f).map mkB = levels f := by
  unfold lvO
  rw [if_pos h, if_neg h1, if_neg h2, levels_mk]
set_option maxRecDepth 100000 in
set_option maxHeartbeats 1000000 in
theorem lv_plain (f : ByteArray) (h : rfc f = 0) (h1 : ¬ unB f = [35]) (h2 : ¬ unB f = [47, 35]) (w : World) : Calls Tryz.prog 17 #[.string f] w fun e w' => ∃ v, e = .returned v ∧ Row w' v ((lvO f).map mkB) ∧ Below w.heap.size w w' ∧ ∀ g, v.ownBlock = some g → w.heap.size ≤ g := by
  rw [lvO_plain h h1 h2]
  have HC : Hid (Calls Tryz.prog 57 #[.string f] w fun e w' => e = .returned (.int .i64 0) ∧ Below w.heap.size w w') := by have := fcheck_any f w; rw [h] at this; exact this
  have HL : Hid (f.size ≤ 1000000) := by have := (rfc_zero h).1; show _ ≤ _; omega
  have q1 : (f.toList == [35]) = false := by rw [eq_one']; simp [h1]
  have q2 : (f.toList == [47, 35]) = false := by
    have := eq_two f ⟨#[47, 35]⟩
    rw [show (⟨#[47, 35]⟩ : ByteArray).toList = [47, 35] from un_list ⟨#[47, 35]⟩] at this
    rw [this]; simp; exact h2
  clear h h1 h2
  go_enter Tryz.func17, Tryz.ntmps17
  go_wp2_with fail
  go_must (go_at_call 57)
  refine HC.out.mono ?_
  rintro e w1 ⟨rfl, hb⟩
  have HB : Hid (Below w.heap.size w w1) := hb
  clear hb
  go_wp2_with fail
  go_must (go_at_call 58)
  refine (tlevels_cap f HL.out w1).mono ?_
  rintro e w2 ⟨rfl, ho, hb⟩
  have HB2 : Hid (Below w.heap.size w w2) := HB.out.trans (hb.mono HB.out.size)
  have HR : Hid (Row w2 (.slice (some ⟨w1.heap.size, 0, none⟩) (levels f).length (levels f).length) (levels f)) := row_of ho
  clear ho hb
  go_wp2_with fail
  go_ret
  refine ⟨.slice (some ⟨w1.heap.size, 0, none⟩) (levels f).length (levels f).length, rfl, HR.out, HB2.out, fun g hg => ?_⟩
  have hg2 : some w1.heap.size = some g := hg
  simp only [Option.some.injEq] at hg2
  rw [← hg2]
  exact HB.out.size
theorem insert_any (b n : Nat) (xs : List ByteArray) (hx : xs.length = n) (hn : 0 < n) (hn2 : n ≤ 1000) (w : World) (vb : Nat) (h : w.ownsRow b 9 1 (.slice (some ⟨b, 0, none⟩) n n) n (xs.map Value.string)) (hv : w.cell? ⟨vb, 0, none⟩ = some (.string ⟨#[43]⟩)) : Calls Tryz.prog 59 #[.slice (some ⟨b, 0, none⟩) n n, .int .i64 ((n - 1 : Nat) : Int), .slice (some ⟨vb, 0, none⟩) 1 1] w fun e w' => ∃ v, e = .returned v ∧ Row w' v (xs.take (n - 1) ++ ⟨#[43]⟩ :: xs.drop (n - 1)) ∧ Below w.heap.size w w' ∧ v.ownBlock = some w.heap.size := by
  have hc : ∀ j v, (xs.map Value.string)[j]? = some v → w.cell? ⟨b, 0 + j, none⟩ = some v := by
    intro j v hj
    have := h.cells (g := b) rfl j v hj
    rw [Nat.zero_add]
    cases j with
    | zero => exact this
    | succ j => simpa [Addr.add] using this
  have := Any2.slices_Insert_string_grow Tryz.laysNm222 b 0 n n (n - 1) vb 0 1 1 (xs.map Value.string) [.string ⟨#[43]⟩] w (by omega) (by omega) (Nat.le_refl _) (by omega) (by omega) (by simpa using hx) rfl hc (fun j v hj => by
    cases j with
    | zero => simp at hj; subst hj; exact hv
    | succ j => simp at hj) (by intro v hv; simp at hv; obtain ⟨a, _, rfl⟩ := hv; rfl) (by intro v hv; simp at hv; subst hv; rfl)
  refine Calls.mono (show Calls Tryz.prog 59 _ w _ from this) ?_
  rintro e w' ⟨rfl, hw⟩
  obtain ⟨h1, h2⟩ := insert_row w n (n - 1) _ (by omega) (grownCap_ge _ _ _ _) xs ⟨#[43]⟩ hx w' hw
  exact ⟨_, rfl, h1, h2, rfl⟩
theorem lvO_sign {f : ByteArray} (h : rfc f = 0) (h1 : unB f = [35] ∨ unB f = [47, 35]) : (lvO f).map mkB = (levels f).take ((levels f).length - 1) ++ ⟨#[43]⟩ :: (levels f).drop ((levels f).length - 1) ∧ (levels f).length ≤ 2 := by
  unfold lvO
  rw [if_pos h]
  rcases h1 with h1 | h1
  · rw [if_pos h1, levels_mk, h1]
    exact ⟨by decide, by decide⟩
  · have : ¬ unB f = [35] := by rw [h1]; decide
    rw [if_neg this, if_pos h1, levels_mk, h1]
    exact ⟨by decide, by decide⟩
set_option maxRecDepth 100000 in
set_option maxHeartbeats 1000000 in
theorem lv_sign (f : ByteArray) (h : rfc f = 0) (h1 : unB f = [35] ∨ unB f = [47, 35]) (w : World) : Calls Tryz.prog 17 #[.string f] w fun e w' => ∃ v, e = .returned v ∧ Row w' v ((lvO f).map mkB) ∧ Below w.heap.size w w' ∧ ∀ g, v.ownBlock = some g → w.heap.size ≤ g := by
  obtain ⟨hv, hle⟩ := lvO_sign h h1
  rw [hv]
  have hpos : 0 < (levels f).length := lvs_pos f f.size 0 0
  have HC : Hid (Calls Tryz.prog 57 #[.string f] w fun e w' => e = .returned (.int .i64 0) ∧ Below w.heap.size w w') := by have := fcheck_any f w; rw [h] at this; exact this
  have HL : Hid (f.size ≤ 1000000) := by have := (rfc_zero h).1; show _ ≤ _; omega
  obtain ⟨b1, q1⟩ : ∃ b1, (f.toList == [35]) = b1 := ⟨_, rfl⟩
  have HQ2 : Hid (b1 = false → (f.toList == [47, 35]) = true) := by
    intro hb
    rw [hb, eq_one'] at q1
    have h3 : ¬ unB f = [35] := by simpa using q1
    have := eq_two f ⟨#[47, 35]⟩
    rw [show (⟨#[47, 35]⟩ : ByteArray).toList = [47, 35] from un_list ⟨#[47, 35]⟩] at this
    rw [this]
    rcases h1 with h1 | h1
    · exact absurd h1 h3
    · simp; exact h1
  obtain ⟨n, hn⟩ : ∃ n, (levels f).length = n := ⟨_, rfl⟩
  have HN : Hid ((levels f).length = n ∧ 0 < n ∧ n ≤ 2) := ⟨hn, by omega, by omega⟩
  rw [hn] at hpos hle ⊢
  have TL : Hid (∀ w1, Calls Tryz.prog 58 #[.string f] w1 fun e w' => e = .returned (.slice (some ⟨w1.heap.size, 0, none⟩) n n) ∧ w'.ownsRow w1.heap.size 9 1 (.slice (some ⟨w1.heap.size, 0, none⟩) n n) n ((levels f).map Value.string) ∧ Below w1.heap.size w1 w') := fun w1 => by have := tlevels_cap f HL.out w1; rw [hn] at this; exact this
  have p1 : IntKind.i64.wrap ((n : Int) - 1) = ((n - 1 : Nat) : Int) := by rw [IntKind.wrap_i64]; omega
  clear h h1 hv hn hpos hle
  go_enter Tryz.func17, Tryz.ntmps17
  go_wp2_with fail
  go_must (go_at_call 57)
  refine HC.out.mono ?_
  rintro e w1 ⟨rfl, hb⟩
  have HB : Hid (Below w.heap.size w w1) := hb
  clear hb
  go_wp2_with fail
  go_must (go_at_call 58)
  refine (TL.out w1).mono ?_
  rintro e w2 ⟨rfl, ho, hb⟩
  have HB2 : Hid (Below w.heap.size w w2) := HB.out.trans (hb.mono HB.out.size)
  have HO : Hid (w2.ownsRow w1.heap.size 9 1 (.slice (some ⟨w1.heap.size, 0, none⟩) n n) n ((levels f).map Value.string)) := ho
  have HI : Hid (Calls Tryz.prog 59 #[.slice (some ⟨w1.heap.size, 0, none⟩) n n, .int .i64 ((n - 1 : Nat) : Int), .slice (some ⟨w2.heap.size, 0, none⟩) 1 1] (w2.alloc (.cells #[.string ⟨#[43]⟩] 9)) fun e w' => ∃ v, e = .returned v ∧ Row w' v ((levels f).take (n - 1) ++ ⟨#[43]⟩ :: (levels f).drop (n - 1)) ∧ Below w.heap.size w w' ∧ ∀ g, v.ownBlock = some g → w.heap.size ≤ g) := by
    refine (insert_any w1.heap.size n (levels f) HN.out.1 HN.out.2.1 (by have := HN.out; omega) _ w2.heap.size (HO.out.alloc _) (cell_one_new _ _ _ 0 _ rfl)).mono ?_
    rintro e w' ⟨v, rfl, hr, hb, hv⟩
    refine ⟨v, rfl, hr, (HB2.out.alloc HB2.out.size _).trans (hb.mono (by have := HB2.out.size; simp; omega)), fun g hg => ?_⟩
    rw [hv] at hg
    simp at hg
    have := HB2.out.size
    omega
  clear ho hb
  cases b1 with
  | true =>
    go_wp2_with fail
    go_must (go_at_call 59)
    refine HI.out.mono ?_
    rintro e w3 ⟨v, rfl, hr, hb, hv⟩
    have HV : Hid (∀ g, v.ownBlock = some g → w.heap.size ≤ g) := hv
    clear hv
    have HR3 : Hid (Row w3 v ((levels f).take (n - 1) ++ ⟨#[43]⟩ :: (levels f).drop (n - 1))) := hr
    have HB3 : Hid (Below w.heap.size w w3) := hb
    clear hr hb
    go_wp2_with fail
    go_ret
    exact ⟨_, rfl, HR3.out, HB3.out, HV.out⟩
  | false =>
    have q2 := HQ2.out rfl
    go_wp2_with fail
    go_must (go_at_call 59)
    refine HI.out.mono ?_
    rintro e w3 ⟨v, rfl, hr, hb, hv⟩
    have HV : Hid (∀ g, v.ownBlock = some g → w.heap.size ≤ g) := hv
    clear hv
    have HR3 : Hid (Row w3 v ((levels f).take (n - 1) ++ ⟨#[43]⟩ :: (levels f).drop (n - 1))) := hr
    have HB3 : Hid (Below w.heap.size w w3) := hb
    clear hr hb
    go_wp2_with fail
    go_ret
    exact ⟨_, rfl, HR3.out, HB3.out, HV.out⟩
theorem lvN_any (f : ByteArray) (w : World) : Calls Tryz.prog 17 #[.string f] w fun e w' => ∃ v, e = .returned v ∧ Row w' v ((lvO f).map mkB) ∧ Below w.heap.size w w' ∧ ∀ g, v.ownBlock = some g → w.heap.size ≤ g := by
  by_cases h : rfc f = 0
  · by_cases h1 : unB f = [35]
    · exact lv_sign f h (.inl h1) w
    · by_cases h2 : unB f = [47, 35]
      · exact lv_sign f h (.inr h2) w
      · exact lv_plain f h h1 h2 w
  · exact lv_wrong f h w
end Go.Proofs.YtglnldopnoafoaaGreatDoor

namespace Go.Proofs.YtglnldopnoafoaaGreatDoor
open Go Go.RowKit
set_option linter.unusedSimpArgs false
set_option linter.unusedVariables false

theorem map_un_mk (l : List Bs) : (l.map mkB).map unB = l := by
  rw [List.map_map]
  conv => rhs; rw [← List.map_id l]
  exact List.map_congr_left fun x _ => un_mk x
theorem lvO_len (f : ByteArray) : (lvO f).length ≤ 65537 := by
  unfold lvO
  split
  · rename_i h
    split
    · decide
    · split
      · decide
      · rw [split_count]
        have h1 := (rfc_zero h).1
        have h2 : (unB f).count 47 ≤ (unB f).length := List.count_le_length
        rw [un_size] at h2
        omega
  · simp

end Go.Proofs.YtglnldopnoafoaaGreatDoor

namespace Go.Proofs.YtglnldopnoafoaaGreatDoor
open Go Go.RowKit
set_option linter.unusedSimpArgs false
set_option linter.unusedVariables false

/-- Within: whether the first lies within the second. -/
def inP (f g : ByteArray) : Bool := (outP f g).isNone
end Go.Proofs.YtglnldopnoafoaaGreatDoor

namespace Go.Proofs.YtglnldopnoafoaaGreatDoor
open Go Go.RowKit
set_option linter.unusedSimpArgs false
set_option linter.unusedVariables false

abbrev Sx := Option Addr × Nat × Nat
/-- A slice as a value. -/
def encSl (x : Sx) : Value := .slice x.1 x.2.1 x.2.2
theorem row_put {α : Type} [Inhabited α] (enc : α → Value) {w : World} {v : Value} {xs : List ByteArray} (h : Row w v xs) (q blk off : Nat) (d : Array α) (hne : ∀ g, v.ownBlock = some g → g ≠ blk) : Row (Sort.putRow enc (Sort.ahead w q) blk off d) v xs := by
  obtain ⟨a, n, cap, rfl, hn, hc, hx⟩ := h
  refine ⟨a, n, cap, rfl, hn, hc, fun hn2 => ?_⟩
  obtain ⟨g, o, rfl, hg, hk⟩ := hx hn2
  refine ⟨g, o, rfl, by simpa using hg, fun k x hkx => ?_⟩
  rw [Sort.cell?_putRow_other _ _ _ _ _ _ (.inl (hne g rfl))]
  exact hk k x hkx
theorem holds_put {α β : Type} [Inhabited α] [Inhabited β] (enc : α → Value) (enc2 : β → Value) {w : World} {b2 : Nat} {d2 : Array β} (h : Sort.Holds enc2 w b2 0 d2) (q blk : Nat) (d : Array α) (hne : b2 ≠ blk) : Sort.Holds enc2 (Sort.putRow enc (Sort.ahead w q) blk 0 d) b2 0 d2 := by
  intro j hj
  have := h j hj
  refine ⟨?_, by rw [Sort.frozen?_putRow]; exact this.2⟩
  rw [Sort.cell?_putRow_other _ _ _ _ _ _ (.inl hne)]
  exact this.1
theorem holds_pre {α : Type} [Inhabited α] (enc : α → Value) {w : World} {b : Nat} {l m : List α} (h : Sort.Holds enc w b 0 (l ++ m).toArray) : Sort.Holds enc w b 0 l.toArray := by
  intro j hj
  have hj' : j < l.length := by simpa using hj
  have := h j (by simp; omega)
  refine ⟨?_, this.2⟩
  rw [this.1]
  simp [hj', List.getElem?_append_left hj']
theorem holds_below {α : Type} [Inhabited α] (enc : α → Value) {w w' : World} {b : Nat} {d : Array α} (h : Sort.Holds enc w b 0 d) (hb : Below w.heap.size w w') (hlt : b < w.heap.size) : Sort.Holds enc w' b 0 d := by
  intro j hj
  have := h j hj
  refine ⟨by rw [hb.cell (p := ⟨b, 0 + j, none⟩) hlt]; exact this.1, ?_⟩
  have e : w'.heap[b]? = w.heap[b]? := hb.block b hlt
  have h2 := this.2
  simp only [World.frozen?] at h2 ⊢
  rw [e]; exact h2
/-- A block of texts with so many cells. -/
def Bx (w : World) (b c : Nat) : Prop := ∃ cur, w.heap[b]? = some (.cells cur 9 (0, 0)) ∧ cur.size = c
theorem Bx.below {w w' : World} {b c : Nat} (h : Bx w b c) (hb : Below w.heap.size w w') : Bx w' b c := by
  obtain ⟨cur, h1, h2⟩ := h
  exact ⟨cur, (hb.block b (Array.getElem?_eq_some_iff.1 h1).1).trans h1, h2⟩
theorem Bx.put {α : Type} [Inhabited α] (enc : α → Value) {w : World} {b c : Nat} (h : Bx w b c) (q blk : Nat) (d : Array α) : Bx (Sort.putRow enc (Sort.ahead w q) blk 0 d) b c := by
  obtain ⟨cur, h1, h2⟩ := h
  by_cases e : blk = b
  · subst e
    refine ⟨Sort.putCells enc 0 d cur, ?_, by simpa [Sort.putCells] using h2⟩
    show (w.heap.modify blk _)[blk]? = _
    rw [Array.getElem?_modify, if_pos rfl, h1]
    rfl
  · refine ⟨cur, ?_, h2⟩
    show (w.heap.modify blk _)[b]? = _
    rw [Array.getElem?_modify, if_neg e]
    exact h1
/-- Both lists of Least in memory. -/
structure St (w0 w : World) (lb sb lc sc : Nat) (L : List ByteArray) (D : List Sx) : Prop where
  bel : Below w0.heap.size w0 w
  l0 : w0.heap.size ≤ lb
  l1 : lb < w.heap.size
  s0 : w0.heap.size ≤ sb
  s1 : sb < w.heap.size
  ne : lb ≠ sb
  hl : Sort.Holds encStr w lb 0 (L.map unB).toArray
  hs : Sort.Holds encSl w sb 0 D.toArray
  len : D.length = L.length
  lc1 : L.length ≤ lc
  lc2 : lc ≤ 9223372036854775807
  sc1 : L.length ≤ sc
  sc2 : sc ≤ 9223372036854775807
  rows : ∀ (j : Nat) (x : ByteArray) (d : Sx), L[j]? = some x → D[j]? = some d → Row w (encSl d) ((lvO x).map mkB) ∧ ∀ g, (encSl d).ownBlock = some g → g ≠ lb ∧ g ≠ sb
  bx : Bx w lb lc
theorem St.later {w0 w w' : World} {lb sb lc sc : Nat} {L : List ByteArray} {D : List Sx} (h : St w0 w lb sb lc sc L D) (hb : Below w.heap.size w w') : St w0 w' lb sb lc sc L D :=
  ⟨h.bel.trans (hb.mono h.bel.size), h.l0, Nat.lt_of_lt_of_le h.l1 hb.size, h.s0, Nat.lt_of_lt_of_le h.s1 hb.size, h.ne, holds_below _ h.hl hb h.l1, holds_below _ h.hs hb h.s1, h.len, h.lc1, h.lc2, h.sc1, h.sc2, fun j x d h1 h2 => ⟨(h.rows j x d h1 h2).1.later hb, (h.rows j x d h1 h2).2⟩, h.bx.below hb⟩
theorem below_putG {α : Type} [Inhabited α] (enc : α → Value) {B : Nat} {w : World} {g : Nat} (hg : B ≤ g) (q : Nat) (d : Array α) : Below B w (Sort.putRow enc (Sort.ahead w q) g 0 d) := by
  refine ⟨rfl, rfl, rfl, by simp, fun k hk => ?_⟩
  have : k ≠ g := by omega
  simp [Sort.putRow, Sort.mapBlock]
  rw [Array.getElem?_modify]
  simp [this.symm]
theorem cut_at {α : Type} (l : List α) (i : Nat) : l.eraseIdx i = l.take i ++ l.drop (i + 1) := List.eraseIdx_eq_take_drop_succ l i
theorem St.del {w0 w : World} {lb sb lc sc : Nat} {L : List ByteArray} {D : List Sx} (h : St w0 w lb sb lc sc L D) (i q1 q2 : Nat) (hi : i < L.length) (z1 : List Bs) (z2 : List Sx) (w1 w2 : World) (h1 : w1 = Sort.putRow encStr (Sort.ahead w q1) lb 0 ((L.map unB).take i ++ (L.map unB).drop (i + 1) ++ z1).toArray) (hz1 : z1.length = 1) (h2 : w2 = Sort.putRow encSl (Sort.ahead w1 q2) sb 0 (D.take i ++ D.drop (i + 1) ++ z2).toArray) (hz2 : z2.length = 1) : St w0 w2 lb sb lc sc (L.eraseIdx i) (D.eraseIdx i) := by
  have hlen := h.len
  have e1 : w1.heap.size = w.heap.size := by rw [h1]; simp
  have e2 : w2.heap.size = w1.heap.size := by rw [h2]; simp
  have b1 : Below w0.heap.size w0 w1 := h.bel.trans (by rw [h1]; exact below_putG _ h.l0 _ _)
  have b2 : Below w0.heap.size w0 w2 := b1.trans (by rw [h2]; exact below_putG _ h.s0 _ _)
  have hs1 : Sort.Holds encSl w1 sb 0 D.toArray := by rw [h1]; exact holds_put _ _ h.hs _ _ _ (Ne.symm h.ne)
  have hl1 : Sort.Holds encStr w1 lb 0 ((L.map unB).take i ++ (L.map unB).drop (i + 1) ++ z1).toArray := by
    rw [h1]
    exact Sort.holds_putRow _ _ _ _ _ _ (Sort.holds_ahead _ _ _ _ _ _ h.hl) (by simp; omega)
  have hl2 : Sort.Holds encStr w2 lb 0 ((L.map unB).take i ++ (L.map unB).drop (i + 1) ++ z1).toArray := by rw [h2]; exact holds_put _ _ hl1 _ _ _ h.ne
  have hs2 : Sort.Holds encSl w2 sb 0 (D.take i ++ D.drop (i + 1) ++ z2).toArray := by
    rw [h2]
    exact Sort.holds_putRow _ _ _ _ _ _ (Sort.holds_ahead _ _ _ _ _ _ hs1) (by simp; omega)
  have hl : (L.eraseIdx i).length = L.length - 1 := by rw [List.length_eraseIdx]; simp [hi]
  have hd : (D.eraseIdx i).length = D.length - 1 := by rw [List.length_eraseIdx]; simp [hlen, hi]
  refine ⟨b2, h.l0, by rw [e2, e1]; exact h.l1, h.s0, by rw [e2, e1]; exact h.s1, h.ne, ?_, ?_, by omega, by have := h.lc1; omega, h.lc2, by have := h.sc1; omega, h.sc2, ?_, ?_⟩
  · have : (L.eraseIdx i).map unB = (L.map unB).take i ++ (L.map unB).drop (i + 1) := by rw [cut_at]; simp
    rw [this]
    exact holds_pre _ hl2
  · rw [cut_at]
    exact holds_pre _ hs2
  · intro j x d hx hd2
    have key : ∃ k : Nat, L[k]? = some x ∧ D[k]? = some d := by
      rw [List.getElem?_eraseIdx] at hx hd2
      by_cases hj : j < i
      · rw [if_pos hj] at hx hd2; exact ⟨j, hx, hd2⟩
      · rw [if_neg hj] at hx hd2; exact ⟨j + 1, hx, hd2⟩
    obtain ⟨k, k1, k2⟩ := key
    obtain ⟨r1, r2⟩ := h.rows k x d k1 k2
    refine ⟨?_, r2⟩
    rw [h2]
    refine row_put _ ?_ _ _ _ _ (fun g hg => (r2 g hg).2)
    rw [h1]
    exact row_put _ r1 _ _ _ _ (fun g hg => (r2 g hg).1)
  · rw [h2]
    refine Bx.put _ ?_ _ _ _
    rw [h1]
    exact Bx.put _ h.bx _ _ _
end Go.Proofs.YtglnldopnoafoaaGreatDoor

namespace Go.Proofs.YtglnldopnoafoaaGreatDoor
open Go Go.RowKit
set_option linter.unusedSimpArgs false
set_option linter.unusedVariables false

theorem enc_one : OneCell encSl := fun _ => rfl
/-- Does the text at a place lie within another one? -/
def lies (L : List ByteArray) (i : Nat) : Bool := (List.range L.length).any fun j => decide (j ≠ i) && inP (L[i]?.getD ⟨#[]⟩) (L[j]?.getD ⟨#[]⟩)
/-- What is left, from a place on downwards. -/
def lea : Nat → List ByteArray → List ByteArray
  | 0, L => L
  | k + 1, L => lea k (if lies L k then L.eraseIdx k else L)
theorem zero27 (w : World) : (zeroValue 22).run Tryz.prog w = .ok (encSl (none, 0, 0)) w := Tryz.zeroValue22 w
set_option maxRecDepth 100000 in
set_option maxHeartbeats 1000000 in
theorem del_left {w0 w : World} {lb sb lc sc : Nat} {L : List ByteArray} {D : List Sx} (h : St w0 w lb sb lc sc L D) (i : Nat) (hi : i < L.length) : Calls Tryz.prog 19 #[.slice (some ⟨lb, 0, none⟩) L.length lc, .int .i64 i, .int .i64 ((i : Int) + 1)] w fun e w' => e = .returned (.slice (some ⟨lb, 0, none⟩) (L.length - 1) lc) ∧ ∃ q, w' = Sort.putRow encStr (Sort.ahead w q) lb 0 ((L.map unB).take i ++ (L.map unB).drop (i + 1) ++ [[]]).toArray := by
  have := Tryz.slices_Delete_string lb 0 lc i (i + 1) (L.map unB) w h.hl (by simpa using h.lc1) h.lc2 (by omega) (by simp; omega)
  simp only [List.length_map] at this
  rw [show i + 1 - i = 1 by omega] at this
  exact this
set_option maxRecDepth 100000 in
theorem del_sets {w0 w : World} {lb sb lc sc : Nat} {L : List ByteArray} {D : List Sx} (w1 : World) (hH : Sort.Holds encSl w1 sb 0 D.toArray) (h : St w0 w lb sb lc sc L D) (i : Nat) (hi : i < L.length) : Calls Tryz.prog 20 #[.slice (some ⟨sb, 0, none⟩) L.length sc, .int .i64 i, .int .i64 ((i : Int) + 1)] w1 fun e w' => e = .returned (.slice (some ⟨sb, 0, none⟩) (L.length - 1) sc) ∧ ∃ q, w' = Sort.putRow encSl (Sort.ahead w1 q) sb 0 (D.take i ++ D.drop (i + 1) ++ [(none, 0, 0)]).toArray := by
  obtain ⟨i0, hi0, hz1⟩ : ∃ i0, Tryz.prog.info? 22 = some i0 ∧ i0.size = 1 := ⟨_, rfl, rfl⟩
  have := Tryz.slices_Delete_f40 encSl enc_one (none, 0, 0) zero27 i0 hi0 hz1 sb 0 sc i (i + 1) D.toArray w1 hH (by have := h.sc1; have := h.len; simp; omega) h.sc2 (by omega) (by have := h.len; simp; omega)
  simp only [List.size_toArray, h.len, List.toList_toArray] at this
  rw [show i + 1 - i = 1 by omega] at this
  exact this
theorem St.cellS {w0 w : World} {lb sb lc sc : Nat} {L : List ByteArray} {D : List Sx} (h : St w0 w lb sb lc sc L D) (j : Nat) (d : Sx) (hd : D[j]? = some d) : w.cell? ⟨sb, j, none⟩ = some (.slice d.1 d.2.1 d.2.2) := by
  have hj := (List.getElem?_eq_some_iff.1 hd).1
  have := (h.hs j (by simpa using hj)).1
  rw [Nat.zero_add] at this
  rw [this]
  have e : D.toArray[j]! = d := by
    simp [hd]
  rw [e]
  rfl
end Go.Proofs.YtglnldopnoafoaaGreatDoor

namespace Go.Proofs.YtglnldopnoafoaaGreatDoor
open Go Go.RowKit
set_option linter.unusedSimpArgs false
set_option linter.unusedVariables false

/-- Both lists of Least while the second is being filled: so many of its rows are there. -/
structure Sf (w0 w : World) (lb sb lc : Nat) (L : List ByteArray) (D : List Sx) (k : Nat) : Prop where
  bel : Below w0.heap.size w0 w
  l0 : w0.heap.size ≤ lb
  l1 : lb < w.heap.size
  s0 : w0.heap.size ≤ sb
  s1 : sb < w.heap.size
  ne : lb ≠ sb
  hl : Sort.Holds encStr w lb 0 (L.map unB).toArray
  hs : Sort.Holds encSl w sb 0 D.toArray
  len : D.length = L.length
  lc1 : L.length ≤ lc
  lc2 : lc ≤ 9223372036854775807
  sc2 : L.length ≤ 9223372036854775807
  rows : ∀ (j : Nat) (x : ByteArray) (d : Sx), j < k → L[j]? = some x → D[j]? = some d → Row w (encSl d) ((lvO x).map mkB) ∧ ∀ g, (encSl d).ownBlock = some g → g ≠ lb ∧ g ≠ sb
  bx : Bx w lb lc
theorem Sf.later {w0 w w' : World} {lb sb lc k : Nat} {L : List ByteArray} {D : List Sx} (h : Sf w0 w lb sb lc L D k) (hb : Below w.heap.size w w') : Sf w0 w' lb sb lc L D k :=
  ⟨h.bel.trans (hb.mono h.bel.size), h.l0, Nat.lt_of_lt_of_le h.l1 hb.size, h.s0, Nat.lt_of_lt_of_le h.s1 hb.size, h.ne, holds_below _ h.hl hb h.l1, holds_below _ h.hs hb h.s1, h.len, h.lc1, h.lc2, h.sc2, fun j x d h0 h1 h2 => ⟨(h.rows j x d h0 h1 h2).1.later hb, (h.rows j x d h0 h1 h2).2⟩, h.bx.below hb⟩
theorem Sf.whole {w0 w : World} {lb sb lc : Nat} {L : List ByteArray} {D : List Sx} (h : Sf w0 w lb sb lc L D L.length) : St w0 w lb sb lc L.length L D :=
  ⟨h.bel, h.l0, h.l1, h.s0, h.s1, h.ne, h.hl, h.hs, h.len, h.lc1, h.lc2, Nat.le_refl _, h.sc2, fun j x d h1 h2 => h.rows j x d (List.getElem?_eq_some_iff.1 h1).1 h1 h2, h.bx⟩
theorem put_self {w0 w : World} {lb sb lc k : Nat} {L : List ByteArray} {D : List Sx} (h : Sf w0 w lb sb lc L D k) (d : Sx) (hk : k < L.length) : w.setCell ⟨sb, k, none⟩ (encSl d) = Sort.putRow encSl (Sort.ahead w 0) sb 0 (D.set k d).toArray := by
  have h1 := Sort.putRow_self encSl w sb 0 D.toArray h.hs
  have h2 := Sort.putRow_set encSl w sb 0 D.toArray k d (by have := h.len; simp; omega)
  rw [h1, Nat.zero_add] at h2
  rw [h2]
  simp
theorem Sf.store {w0 w : World} {lb sb lc k : Nat} {L : List ByteArray} {D : List Sx} (h : Sf w0 w lb sb lc L D k) (x : ByteArray) (d : Sx) (hx : L[k]? = some x) (hr : Row w (encSl d) ((lvO x).map mkB)) (hg : ∀ g, (encSl d).ownBlock = some g → g ≠ lb ∧ g ≠ sb) : Sf w0 (w.setCell ⟨sb, k, none⟩ (encSl d)) lb sb lc L (D.set k d) (k + 1) := by
  have hk := (List.getElem?_eq_some_iff.1 hx).1
  rw [put_self h d hk]
  have hz : (Sort.putRow encSl (Sort.ahead w 0) sb 0 (D.set k d).toArray).heap.size = w.heap.size := by simp
  refine ⟨h.bel.trans (below_putG _ h.s0 _ _), h.l0, by rw [hz]; exact h.l1, h.s0, by rw [hz]; exact h.s1, h.ne, holds_put _ _ h.hl _ _ _ h.ne, Sort.holds_putRow _ _ _ _ _ _ (Sort.holds_ahead _ _ _ _ _ _ h.hs) (by simp), by simp; exact h.len, h.lc1, h.lc2, h.sc2, ?_, h.bx.put _ _ _ _⟩
  intro j y e hj hy he
  by_cases hjk : j = k
  · subst hjk
    rw [hx] at hy
    simp only [Option.some.injEq] at hy
    subst hy
    rw [List.getElem?_set_self (by have := h.len; omega)] at he
    simp only [Option.some.injEq] at he
    subst he
    exact ⟨row_put _ hr _ _ _ _ (fun g h1 => (hg g h1).2), hg⟩
  · rw [List.getElem?_set_ne (Ne.symm hjk)] at he
    obtain ⟨r1, r2⟩ := h.rows j y e (by omega) hy he
    exact ⟨row_put _ r1 _ _ _ _ (fun g h1 => (r2 g h1).2), r2⟩
end Go.Proofs.YtglnldopnoafoaaGreatDoor

