import Derived.Test.YtcoccggimbficaaDoorWb
import Derived.Test.YtcoccggimbficaaDoorWf
import Derived.Deep.AppendSrc
import Derived.Deep.DeepAppendWide
import Derived.Lib.AppendZeros
namespace Go.Proofs.YtcoccggimbficaaDoor
open Go Go.RowKit Go.Sort
set_option linter.unusedSimpArgs false
set_option linter.unusedVariables false

theorem append_none {P : Program} (w : World) (t tx ty e : TypeId) (i : TypeInfo) (ht : P.underlying t = some (.slice e)) (hi : P.info? e = some i) (x : Value) (hs : Src P i.size tx x 0 [] w) :
    (Builtin.append_ #[t, tx] ty #[.slice none 0 0, x]).run P w = .ok (.slice none 0 0) w := by
  rcases hs.kind with ⟨e', hk⟩ | hk <;> simp [Builtin.append_, run_underlying ht, run_underlying hk, sizeOf, typeInfo, hi, hs.len, hs.cells]

theorem append_new {P : Program} (w : World) (t ty e : TypeId) (i : TypeInfo) (z : Value) (ht : P.underlying t = some (.slice e)) (hi : P.info? e = some i) (hz : i.zero = some z) (hb : i.bytes ≤ 32) (n : Nat) (x : Value) (news : List Value) (hs : Src P i.size t x n news w) (hn : 0 < n) (hm : n ≤ 1000000) :
    ∃ cap zs, n ≤ cap ∧ (Builtin.append_ #[t, t] ty #[.slice none 0 0, x]).run P w = .ok (.slice (some ⟨w.heap.size, 0, none⟩) n cap) (w.drew.alloc (.cells (news.toArray ++ zs) e)) := by
  have hfit : Builtin.nextslicecap (0 + n) 0 * i.bytes ≤ 281474976710656 := growslice_fits_wide (by omega) (by
    have : (0 + n + (0 + n) / 4 + 192) * i.bytes ≤ (0 + n + (0 + n) / 4 + 192) * 32 := Nat.mul_le_mul_left _ hb
    omega)
  have := run_append_grow_src w t t ty e i z ht hi hz none 0 0 [] (run_firstCells_none w.drew i.size 0 0 0) x n news hs (by omega) (by omega) hfit
  rw [Nat.zero_add] at this
  refine ⟨_, _, ?_, this⟩
  exact grownCap_ge w _ _ _

theorem new_cell (w : World) (cs : Array Value) (t : TypeId) (k : Nat) (v : Value) (h : cs[k]? = some v) : (w.drew.alloc (.cells cs t)).cell? ⟨w.heap.size, k, none⟩ = some v := box_cell w.drew cs t k v h

set_option maxHeartbeats 1000000 in
theorem renew_bytes (s : Sl) (z : Nat → Int) (w : World) (h : By w s z) (hm : s.n ≤ 1000000) : Calls Tryd.prog 28 #[.slice s.a s.n s.c] w fun e w' => ∃ s' : Sl, e = .returned (.slice s'.a s'.n s'.c) ∧ Below w.heap.size w w' ∧ s'.n = s.n ∧ By w' s' z ∧ (∀ b off, 0 < s'.n → s'.a = some ⟨b, off, none⟩ → w.heap.size ≤ b) := by
  obtain ⟨aa, an, ac⟩ := s
  simp only at hm ⊢
  obtain ⟨i0, hi, hz0, hz1, hz2⟩ : ∃ i, Tryd.prog.info? 5 = some i ∧ i.zero = some (.int .u8 0) ∧ i.size = 1 ∧ i.bytes ≤ 32 := ⟨_, rfl, rfl, rfl, by decide⟩
  by_cases hn : an = 0
  · subst hn
    have hsrc : Src Tryd.prog i0.size 24 (.slice aa 0 ac) 0 [] w := by
      cases aa with
      | none => exact Src.ofNil w Tryd.underlying24 ac
      | some ad => exact Src.ofSlice w Tryd.underlying24 ad 0 ac [] (by simp) (fun j u hj => by simp at hj) (fun u hu => by cases hu)
    have hr := append_none w 24 24 24 5 i0 Tryd.underlying24 hi _ hsrc
    go_enter Tryd.func28, Tryd.ntmps28
    go_wp2_with (at_builtin; refine Lib.wpList_append_run w rfl _ _ 24 24 rfl _ _ rfl rfl _ _ hr ?_)
    go_ret
    exact ⟨⟨none, 0, 0⟩, rfl, Below.refl _ _, rfl, ⟨Nat.le_refl _, h.2.1, .inl rfl⟩, fun b off h0 _ => absurd h0 (Nat.lt_irrefl 0)⟩
  · obtain ⟨b, off, he, hc⟩ : ∃ b off, aa = some ⟨b, off, none⟩ ∧ ∀ i, i < an → w.cell? ⟨b, off + i, none⟩ = some (.int .u8 (z i)) := by
      rcases h with ⟨_, _, h | h⟩
      · exact absurd h hn
      · exact h
    subst he
    have hsrc : Src Tryd.prog i0.size 24 (.slice (some ⟨b, off, none⟩) an ac) an ((List.range an).map fun i => .int .u8 (z i)) w := by
      refine Src.ofSlice w Tryd.underlying24 ⟨b, off, none⟩ an ac _ (by rw [hz1]; simp) ?_ ?_
      · intro j u hj
        rw [plain_add]
        rw [List.getElem?_map] at hj
        by_cases hj2 : j < an
        · rw [List.getElem?_range hj2] at hj
          simp at hj
          subst hj
          exact hc j hj2
        · rw [List.getElem?_eq_none (by simpa using hj2)] at hj
          simp at hj
      · intro u hu
        obtain ⟨i, _, rfl⟩ := List.mem_map.1 hu
        rfl
    obtain ⟨cap, zs, hcap, hr⟩ := append_new w 24 24 5 i0 (.int .u8 0) Tryd.underlying24 hi hz0 hz2 an _ _ hsrc (by omega) hm
    have HW : Hid (Below w.heap.size w (w.drew.alloc (.cells (((List.range an).map fun i => .int .u8 (z i)).toArray ++ zs) 5))) := ((Below.refl w.heap.size w).drew).alloc (Nat.le_refl _) _
    have HX : Hid (By (w.drew.alloc (.cells (((List.range an).map fun i => .int .u8 (z i)).toArray ++ zs) 5)) ⟨some ⟨w.heap.size, 0, none⟩, an, cap⟩ z) := by
      refine ⟨hcap, h.2.1, .inr ⟨w.heap.size, 0, rfl, fun i hi => ?_⟩⟩
      rw [Nat.zero_add]
      refine new_cell w _ 5 i _ ?_
      rw [Array.getElem?_append_left (by simpa using hi)]
      simp [List.getElem?_range hi, hi]
    clear hsrc hc
    go_enter Tryd.func28, Tryd.ntmps28
    go_wp2_with (at_builtin; refine Lib.wpList_append_run w rfl _ _ 24 24 rfl _ _ rfl rfl _ _ hr ?_)
    go_ret
    exact ⟨⟨some ⟨w.heap.size, 0, none⟩, an, cap⟩, rfl, HW.out, rfl, HX.out, fun b off _ he => by
      simp only [Option.some.injEq, Addr.mk.injEq] at he
      omega⟩

set_option maxHeartbeats 1000000 in
theorem renew_ints (s : Sl) (z : Nat → Int) (w : World) (h : Is w s z) (hm : s.n ≤ 1000000) : Calls Tryd.prog 30 #[.slice s.a s.n s.c] w fun e w' => ∃ s' : Sl, e = .returned (.slice s'.a s'.n s'.c) ∧ Below w.heap.size w w' ∧ s'.n = s.n ∧ Is w' s' z ∧ (∀ b off, 0 < s'.n → s'.a = some ⟨b, off, none⟩ → w.heap.size ≤ b) := by
  obtain ⟨aa, an, ac⟩ := s
  simp only at hm ⊢
  obtain ⟨i0, hi, hz0, hz1, hz2⟩ : ∃ i, Tryd.prog.info? 3 = some i ∧ i.zero = some (.int .i64 0) ∧ i.size = 1 ∧ i.bytes ≤ 32 := ⟨_, rfl, rfl, rfl, by decide⟩
  by_cases hn : an = 0
  · subst hn
    have hsrc : Src Tryd.prog i0.size 28 (.slice aa 0 ac) 0 [] w := by
      cases aa with
      | none => exact Src.ofNil w Tryd.underlying28 ac
      | some ad => exact Src.ofSlice w Tryd.underlying28 ad 0 ac [] (by simp) (fun j u hj => by simp at hj) (fun u hu => by cases hu)
    have hr := append_none w 28 28 28 3 i0 Tryd.underlying28 hi _ hsrc
    go_enter Tryd.func30, Tryd.ntmps30
    go_wp2_with (at_builtin; refine Lib.wpList_append_run w rfl _ _ 28 28 rfl _ _ rfl rfl _ _ hr ?_)
    go_ret
    exact ⟨⟨none, 0, 0⟩, rfl, Below.refl _ _, rfl, ⟨Nat.le_refl _, .inl rfl⟩, fun b off h0 _ => absurd h0 (Nat.lt_irrefl 0)⟩
  · obtain ⟨b, off, he, hc⟩ : ∃ b off, aa = some ⟨b, off, none⟩ ∧ ∀ i, i < an → w.cell? ⟨b, off + i, none⟩ = some (.int .i64 (z i)) := by
      rcases h with ⟨_, h | h⟩
      · exact absurd h hn
      · exact h
    subst he
    have hsrc : Src Tryd.prog i0.size 28 (.slice (some ⟨b, off, none⟩) an ac) an ((List.range an).map fun i => .int .i64 (z i)) w := by
      refine Src.ofSlice w Tryd.underlying28 ⟨b, off, none⟩ an ac _ (by rw [hz1]; simp) ?_ ?_
      · intro j u hj
        rw [plain_add]
        rw [List.getElem?_map] at hj
        by_cases hj2 : j < an
        · rw [List.getElem?_range hj2] at hj
          simp at hj
          subst hj
          exact hc j hj2
        · rw [List.getElem?_eq_none (by simpa using hj2)] at hj
          simp at hj
      · intro u hu
        obtain ⟨i, _, rfl⟩ := List.mem_map.1 hu
        rfl
    obtain ⟨cap, zs, hcap, hr⟩ := append_new w 28 28 3 i0 (.int .i64 0) Tryd.underlying28 hi hz0 hz2 an _ _ hsrc (by omega) hm
    have HW : Hid (Below w.heap.size w (w.drew.alloc (.cells (((List.range an).map fun i => .int .i64 (z i)).toArray ++ zs) 3))) := ((Below.refl w.heap.size w).drew).alloc (Nat.le_refl _) _
    have HX : Hid (Is (w.drew.alloc (.cells (((List.range an).map fun i => .int .i64 (z i)).toArray ++ zs) 3)) ⟨some ⟨w.heap.size, 0, none⟩, an, cap⟩ z) := by
      refine ⟨hcap, .inr ⟨w.heap.size, 0, rfl, fun i hi => ?_⟩⟩
      rw [Nat.zero_add]
      refine new_cell w _ 3 i _ ?_
      rw [Array.getElem?_append_left (by simpa using hi)]
      simp [List.getElem?_range hi, hi]
    clear hsrc hc
    go_enter Tryd.func30, Tryd.ntmps30
    go_wp2_with (at_builtin; refine Lib.wpList_append_run w rfl _ _ 28 28 rfl _ _ rfl rfl _ _ hr ?_)
    go_ret
    exact ⟨⟨some ⟨w.heap.size, 0, none⟩, an, cap⟩, rfl, HW.out, rfl, HX.out, fun b off _ he => by
      simp only [Option.some.injEq, Addr.mk.injEq] at he
      omega⟩

set_option maxHeartbeats 1000000 in
theorem renew_texts (s : Sl) (z : Nat → ByteArray) (w : World) (h : Ss w s z) (hm : s.n ≤ 1000000) : Calls Tryd.prog 31 #[.slice s.a s.n s.c] w fun e w' => ∃ s' : Sl, e = .returned (.slice s'.a s'.n s'.c) ∧ Below w.heap.size w w' ∧ s'.n = s.n ∧ Ss w' s' z ∧ (∀ b off, 0 < s'.n → s'.a = some ⟨b, off, none⟩ → w.heap.size ≤ b) := by
  obtain ⟨aa, an, ac⟩ := s
  simp only at hm ⊢
  obtain ⟨i0, hi, hz0, hz1, hz2⟩ : ∃ i, Tryd.prog.info? 9 = some i ∧ i.zero = some (.string ⟨#[]⟩) ∧ i.size = 1 ∧ i.bytes ≤ 32 := ⟨_, rfl, rfl, rfl, by decide⟩
  by_cases hn : an = 0
  · subst hn
    have hsrc : Src Tryd.prog i0.size 29 (.slice aa 0 ac) 0 [] w := by
      cases aa with
      | none => exact Src.ofNil w Tryd.underlying29 ac
      | some ad => exact Src.ofSlice w Tryd.underlying29 ad 0 ac [] (by simp) (fun j u hj => by simp at hj) (fun u hu => by cases hu)
    have hr := append_none w 29 29 29 9 i0 Tryd.underlying29 hi _ hsrc
    go_enter Tryd.func31, Tryd.ntmps31
    go_wp2_with (at_builtin; refine Lib.wpList_append_run w rfl _ _ 29 29 rfl _ _ rfl rfl _ _ hr ?_)
    go_ret
    exact ⟨⟨none, 0, 0⟩, rfl, Below.refl _ _, rfl, ⟨Nat.le_refl _, .inl rfl⟩, fun b off h0 _ => absurd h0 (Nat.lt_irrefl 0)⟩
  · obtain ⟨b, off, he, hc⟩ : ∃ b off, aa = some ⟨b, off, none⟩ ∧ ∀ i, i < an → w.cell? ⟨b, off + i, none⟩ = some (.string (z i)) := by
      rcases h with ⟨_, h | h⟩
      · exact absurd h hn
      · exact h
    subst he
    have hsrc : Src Tryd.prog i0.size 29 (.slice (some ⟨b, off, none⟩) an ac) an ((List.range an).map fun i => .string (z i)) w := by
      refine Src.ofSlice w Tryd.underlying29 ⟨b, off, none⟩ an ac _ (by rw [hz1]; simp) ?_ ?_
      · intro j u hj
        rw [plain_add]
        rw [List.getElem?_map] at hj
        by_cases hj2 : j < an
        · rw [List.getElem?_range hj2] at hj
          simp at hj
          subst hj
          exact hc j hj2
        · rw [List.getElem?_eq_none (by simpa using hj2)] at hj
          simp at hj
      · intro u hu
        obtain ⟨i, _, rfl⟩ := List.mem_map.1 hu
        rfl
    obtain ⟨cap, zs, hcap, hr⟩ := append_new w 29 29 9 i0 (.string ⟨#[]⟩) Tryd.underlying29 hi hz0 hz2 an _ _ hsrc (by omega) hm
    have HW : Hid (Below w.heap.size w (w.drew.alloc (.cells (((List.range an).map fun i => .string (z i)).toArray ++ zs) 9))) := ((Below.refl w.heap.size w).drew).alloc (Nat.le_refl _) _
    have HX : Hid (Ss (w.drew.alloc (.cells (((List.range an).map fun i => .string (z i)).toArray ++ zs) 9)) ⟨some ⟨w.heap.size, 0, none⟩, an, cap⟩ z) := by
      refine ⟨hcap, .inr ⟨w.heap.size, 0, rfl, fun i hi => ?_⟩⟩
      rw [Nat.zero_add]
      refine new_cell w _ 9 i _ ?_
      rw [Array.getElem?_append_left (by simpa using hi)]
      simp [List.getElem?_range hi, hi]
    clear hsrc hc
    go_enter Tryd.func31, Tryd.ntmps31
    go_wp2_with (at_builtin; refine Lib.wpList_append_run w rfl _ _ 29 29 rfl _ _ rfl rfl _ _ hr ?_)
    go_ret
    exact ⟨⟨some ⟨w.heap.size, 0, none⟩, an, cap⟩, rfl, HW.out, rfl, HX.out, fun b off _ he => by
      simp only [Option.some.injEq, Addr.mk.injEq] at he
      omega⟩

set_option maxHeartbeats 1000000 in
theorem renew_asks (s : Sl) (f : Nat → ByteArray) (q : Nat → Int) (w : World) (h : As w s f q) (hm : s.n ≤ 1000000) : Calls Tryd.prog 29 #[.slice s.a s.n s.c] w fun e w' => ∃ s' : Sl, e = .returned (.slice s'.a s'.n s'.c) ∧ Below w.heap.size w w' ∧ s'.n = s.n ∧ As w' s' f q ∧ (∀ b off, 0 < s'.n → s'.a = some ⟨b, off, none⟩ → w.heap.size ≤ b) := by
  obtain ⟨aa, an, ac⟩ := s
  simp only at hm ⊢
  obtain ⟨i0, hi, hz0, hz1, hz2⟩ : ∃ i, Tryd.prog.info? 56 = some i ∧ i.zero = some (.agg #[.string ⟨#[]⟩, .int .i64 0]) ∧ i.size = 2 ∧ i.bytes ≤ 32 := ⟨_, rfl, rfl, rfl, by decide⟩
  by_cases hn : an = 0
  · subst hn
    have hsrc : Src Tryd.prog i0.size 27 (.slice aa 0 ac) 0 [] w := by
      cases aa with
      | none => exact Src.ofNil w Tryd.underlying27 ac
      | some ad => exact Src.ofSlice w Tryd.underlying27 ad 0 ac [] (by simp) (fun j u hj => by simp at hj) (fun u hu => by cases hu)
    have hr := append_none w 27 27 27 56 i0 Tryd.underlying27 hi _ hsrc
    go_enter Tryd.func29, Tryd.ntmps29
    go_wp2_with (at_builtin; refine Lib.wpList_append_run w rfl _ _ 27 27 rfl _ _ rfl rfl _ _ hr ?_)
    go_ret
    exact ⟨⟨none, 0, 0⟩, rfl, Below.refl _ _, rfl, ⟨Nat.le_refl _, .inl rfl⟩, fun b off h0 _ => absurd h0 (Nat.lt_irrefl 0)⟩
  · obtain ⟨b, off, he, hc⟩ : ∃ b off, aa = some ⟨b, off, none⟩ ∧ ∀ i, i < an → (w.cell? ⟨b, off + i * 2, none⟩ = some (.string (f i)) ∧ w.cell? ⟨b, off + i * 2 + 1, none⟩ = some (.int .i64 (q i))) := by
      rcases h with ⟨_, h | h⟩
      · exact absurd h hn
      · exact h
    subst he
    have hsrc : Src Tryd.prog i0.size 27 (.slice (some ⟨b, off, none⟩) an ac) an ((List.range (an * 2)).map fun j => if j % 2 = 0 then .string (f (j / 2)) else .int .i64 (q (j / 2))) w := by
      refine Src.ofSlice w Tryd.underlying27 ⟨b, off, none⟩ an ac _ (by rw [hz1]; simp) ?_ ?_
      · intro j u hj
        rw [plain_add]
        rw [List.getElem?_map] at hj
        by_cases hj2 : j < an * 2
        · rw [List.getElem?_range hj2] at hj
          simp only [Option.map_some, Option.some.injEq] at hj
          have hx := hc (j / 2) (by omega)
          by_cases he : j % 2 = 0
          · rw [if_pos he] at hj
            subst hj
            have e : off + j / 2 * 2 = off + j := by omega
            rw [← e]; exact hx.1
          · rw [if_neg he] at hj
            subst hj
            have e : off + j / 2 * 2 + 1 = off + j := by omega
            rw [← e]; exact hx.2
        · rw [List.getElem?_eq_none (by simpa using hj2)] at hj
          simp at hj
      · intro u hu
        obtain ⟨i, _, rfl⟩ := List.mem_map.1 hu
        split <;> rfl
    obtain ⟨cap, zs, hcap, hr⟩ := append_new w 27 27 56 i0 (.agg #[.string ⟨#[]⟩, .int .i64 0]) Tryd.underlying27 hi hz0 hz2 an _ _ hsrc (by omega) hm
    have HW : Hid (Below w.heap.size w (w.drew.alloc (.cells (((List.range (an * 2)).map fun j => if j % 2 = 0 then .string (f (j / 2)) else .int .i64 (q (j / 2))).toArray ++ zs) 56))) := ((Below.refl w.heap.size w).drew).alloc (Nat.le_refl _) _
    have HX : Hid (As (w.drew.alloc (.cells (((List.range (an * 2)).map fun j => if j % 2 = 0 then .string (f (j / 2)) else .int .i64 (q (j / 2))).toArray ++ zs) 56)) ⟨some ⟨w.heap.size, 0, none⟩, an, cap⟩ f q) := by
      refine ⟨hcap, .inr ⟨w.heap.size, 0, rfl, fun i hi => ⟨?_, ?_⟩⟩⟩
      · rw [Nat.zero_add]
        refine new_cell w _ 56 _ _ ?_
        have hi' : i < an := hi
        have h1 : i * 2 < an * 2 := by omega
        rw [Array.getElem?_append_left (by simpa using h1)]
        simp [List.getElem?_range h1, h1]
      · rw [Nat.zero_add]
        refine new_cell w _ 56 _ _ ?_
        have hi' : i < an := hi
        have h1 : i * 2 + 1 < an * 2 := by omega
        rw [Array.getElem?_append_left (by simpa using h1)]
        simp [List.getElem?_range h1, h1]
        rw [show (i * 2 + 1) / 2 = i by omega]
    clear hsrc hc
    go_enter Tryd.func29, Tryd.ntmps29
    go_wp2_with (at_builtin; refine Lib.wpList_append_run w rfl _ _ 27 27 rfl _ _ rfl rfl _ _ hr ?_)
    go_ret
    exact ⟨⟨some ⟨w.heap.size, 0, none⟩, an, cap⟩, rfl, HW.out, rfl, HX.out, fun b off _ he => by
      simp only [Option.some.injEq, Addr.mk.injEq] at he
      omega⟩
end Go.Proofs.YtcoccggimbficaaDoor
