import Derived.Test.YtglnldopnoafoaaYd
namespace Go.Proofs.Ytglnldopnoafoaa
open Go Go.RowKit
set_option linter.unusedSimpArgs false
set_option linter.unusedVariables false

def bothS (s t : ByteArray) : ByteArray := if s.toList == [43] then t else s
theorem bothS_some {s t : ByteArray} {c : Bs} (h : bothR (unB s) (unB t) = some c) : bothS s t = mkB c := by
  unfold bothR at h
  unfold bothS
  rw [eq_one']
  split at h
  · rename_i e
    simp only [Option.some.injEq] at h
    simp [e, ← h, mk_un]
  · rename_i e
    split at h
    · simp only [Option.some.injEq] at h
      simp [e, ← h, mk_un]
    · cases h
set_option maxRecDepth 100000 in
set_option maxHeartbeats 1000000 in
theorem both_any (s t : ByteArray) (w : World) : Calls Try.prog 23 #[.string s, .string t] w fun e w' => e = .returned (.tuple #[.string (bothS s t), .bool (bothR (unB s) (unB t)).isSome]) ∧ w' = w := by
  obtain ⟨b1, h1⟩ : ∃ b, (s.toList == [43]) = b := ⟨_, rfl⟩
  obtain ⟨b2, h2⟩ : ∃ b, (t.toList == [43]) = b := ⟨_, rfl⟩
  obtain ⟨b3, h3⟩ : ∃ b, (s.toList == t.toList) = b := ⟨_, rfl⟩
  have e0 : (bothR (unB s) (unB t)).isSome = if b1 then true else b2 || b3 := by
    unfold bothR
    rw [← h1, ← h2, ← h3, eq_one', eq_one', eq_two]
    by_cases q1 : unB s = [43]
    · simp [q1]
    · by_cases q2 : unB t = [43]
      · simp [q1, q2]
      · by_cases q3 : unB s = unB t
        · simp [q1, q2, q3]
        · simp [q1, q2, q3]
  have e1 : bothS s t = if b1 then t else s := by unfold bothS; rw [h1]
  rw [e0, e1]
  clear e0 e1
  go_enter Try.func23, Try.ntmps23
  cases b1 <;> cases b2 <;> cases b3 <;> (go_wp2_with fail; go_ret2; exact ⟨rfl, rfl⟩)
set_option maxRecDepth 100000 in
set_option maxHeartbeats 1000000 in
theorem alive_any (xs : List ByteArray) (v : Value) (b : Bool) (w : World) (R : Row w v xs) : Calls Try.prog 25 #[v, .string (if b then ⟨#[97]⟩ else ⟨#[]⟩)] w fun e w' => (∃ v', e = .returned v' ∧ Row w' v' ((aliveR (xs.map unB) b).map mkB)) ∧ Below w.heap.size w w' := by
  have RR : Hid (Row w v xs) := R
  have MB : Hid ((xs.map unB).map mkB = xs) := by
    show _ = _
    rw [List.map_map]
    conv => rhs; rw [← List.map_id xs]
    exact List.map_congr_left fun x _ => mk_un x
  have B0 : Hid (Below w.heap.size w w) := Below.refl _ _
  by_cases h1 : xs.length = 1
  · obtain ⟨x, hx⟩ : ∃ x, xs = [x] := by
      cases xs with
      | nil => simp at h1
      | cons a r =>
        simp at h1
        subst h1
        exact ⟨a, rfl⟩
    subst hx
    obtain ⟨g, o, n, cap, rfl, hn, hc, hg, c0, hk⟩ := Row.cons R
    simp at hn
    subst hn
    by_cases h2 : unB x = []
    · have q1 : (x.toList == []) = true := by rw [un_list, h2]; rfl
      have e0 : aliveR ([x].map unB) b = if b then [[98]] else [[97]] := by simp [aliveR, h2]
      rw [e0]
      have R1 : Hid (∀ c : UInt8, Row (w.alloc (.cells #[.string ⟨#[c]⟩] 9)) (.slice (some ⟨w.heap.size, 0, none⟩) 1 1) ([[c]].map mkB)) := fun c => row_lit w #[.string ⟨#[c]⟩] [⟨#[c]⟩] rfl
      have B1 : Hid (∀ c : UInt8, Below w.heap.size w (w.alloc (.cells #[.string ⟨#[c]⟩] 9))) := fun c => (Below.refl _ _).alloc (Nat.le_refl _) _
      clear R hk hg hc h1 h2 e0
      cases b with
      | true =>
        go_enter Try.func25, Try.ntmps25
        go_wp2_with fail
        go_ret
        exact ⟨⟨_, rfl, R1.out 98⟩, B1.out 98⟩
      | false =>
        go_enter Try.func25, Try.ntmps25
        go_wp2_with fail
        go_ret
        exact ⟨⟨_, rfl, R1.out 97⟩, B1.out 97⟩
    · have q1 : (x.toList == []) = false := by rw [un_list]; simp [h2]
      have e0 : aliveR ([x].map unB) b = [x].map unB := by simp [aliveR, h2]
      rw [e0, MB.out]
      obtain ⟨nt, hnt⟩ : ∃ nt : ByteArray, (if b then ⟨#[97]⟩ else ⟨#[]⟩) = nt := ⟨_, rfl⟩
      rw [hnt]
      clear R hk hg hc h1 h2 e0 hnt
      go_enter Try.func25, Try.ntmps25
      go_wp2_with fail
      go_ret
      exact ⟨⟨_, rfl, RR.out⟩, B0.out⟩
  · have e0 : aliveR (xs.map unB) b = xs.map unB := by
      unfold aliveR
      rw [if_neg]
      intro e
      apply h1
      have := congrArg List.length e
      simpa using this
    rw [e0, MB.out]
    obtain ⟨nt, hnt⟩ : ∃ nt : ByteArray, (if b then ⟨#[97]⟩ else ⟨#[]⟩) = nt := ⟨_, rfl⟩
    rw [hnt]
    obtain ⟨a, n, cap, rfl, hn, -⟩ := R
    have q0 : ((n : Int) == 1) = false := by rw [beq_eq_false_iff_ne]; omega
    clear hn h1 e0 hnt
    go_enter Try.func25, Try.ntmps25
    go_wp2_with fail
    go_ret
    exact ⟨⟨_, rfl, RR.out⟩, B0.out⟩
theorem rlev_row (f : ByteArray) (hz : f.size ≤ 1000000) (w : World) : Calls Try.prog 29 #[.string f] w fun e w' => ∃ v, e = .returned v ∧ Row w' v ((split (unB f)).map mkB) ∧ Below w.heap.size w w' := by
  have := rlevels_row f hz w
  rw [levels_mk] at this
  exact this
set_option maxRecDepth 100000 in
set_option maxHeartbeats 1000000 in
theorem open_any (f : ByteArray) (hf : rfc f = 0) (x : List Bs) (o : Bool) (h : Op f x o) (w : World) : Calls Try.prog 22 #[.string f] w fun e w' => (∃ v, e = .returned (.tuple #[v, .bool o]) ∧ Row w' v (x.map mkB)) ∧ Below w.heap.size w w' := by
  have hz := (rfc_zero hf).1
  have LV : Hid (Calls Try.prog 29 #[.string f] w fun e w' => ∃ v, e = .returned v ∧ Row w' v ((x ++ tl o).map mkB) ∧ Below w.heap.size w w') := by
    have := rlev_row f (by omega) w
    rw [h.sp] at this
    exact this
  have hlen : (x ++ tl o).length ≤ 65536 := by
    rw [← h.sp, split_count]
    have h2 : (unB f).count 47 ≤ (unB f).length := List.count_le_length
    rw [un_size] at h2
    omega
  have hpos : 0 < (x ++ tl o).length := by rw [← h.sp]; exact List.length_pos_iff.2 (split_ne _)
  have HN : Hid ((x ++ tl o).length ≤ 65536 ∧ 0 < (x ++ tl o).length) := ⟨hlen, hpos⟩
  have HNO : Hid (∀ a ∈ x, ¬ a = [35]) := h.no
  clear hz hlen hpos h
  go_enter Try.func22, Try.ntmps22
  go_wp2_with fail
  go_must (go_at_call 29)
  refine LV.out.mono ?_
  rintro e w1 ⟨v, rfl, hr, hb⟩
  have B1 : Hid (Below w.heap.size w w1) := hb
  have RV : Hid (Row w1 v ((x ++ tl o).map mkB)) := hr
  obtain ⟨a, n, cap, rfl, hn, hc, hx⟩ := hr
  simp only [List.length_map] at hn
  obtain ⟨g, og, rfl, hg, hk⟩ := hx (by intro e; have := congrArg List.length e; simp only [List.length_map, List.length_nil] at this; have := HN.out; omega)
  have hnp : 0 < n := by have := HN.out; omega
  have hwn : IntKind.i64.wrap ((n : Int) - 1) = ((n - 1 : Nat) : Int) := by rw [IntKind.wrap_i64]; have := HN.out; omega
  have p1 : (((n - 1 : Nat) : Int)) < (n : Int) := by omega
  have p2 : (0 : Int) ≤ ((n - 1 : Nat) : Int) := by omega
  have p3 : (((n - 1 : Nat) : Int)) ≤ (cap : Int) := by omega
  cases o with
  | true =>
    have hcell : w1.cell? ⟨g, og + (n - 1), none⟩ = some (.string ⟨#[35]⟩) := by
      refine hk (n - 1) ⟨#[35]⟩ ?_
      have e : n - 1 = x.length := by simp [tl] at hn; omega
      rw [e, List.map_append, List.getElem?_append_right (by simp)]
      simp [tl]
      rfl
    have RX : Hid (Row w1 (.slice (some ⟨g, og, none⟩) (n - 1) cap) (x.map mkB)) := by
      refine ⟨_, _, _, rfl, by simp [tl] at hn ⊢; omega, by omega, fun _ => ⟨g, og, rfl, hg, fun k y hy => hk k y ?_⟩⟩
      rw [List.map_append, List.getElem?_append_left (List.getElem?_eq_some_iff.1 hy).1]
      exact hy
    clear hk hx hg hn hb hnp hc RV
    go_wp2_with fail
    all_goals go_ret2
    all_goals exact ⟨⟨_, rfl, RX.out⟩, B1.out⟩
  | false =>
    have hxn : n = x.length := by simpa [tl] using hn
    obtain ⟨lst, hlst⟩ : ∃ c, x[n - 1]? = some c := ⟨_, List.getElem?_eq_getElem (by omega)⟩
    have hne := HNO.out lst (List.mem_of_getElem? hlst)
    have hcell : w1.cell? ⟨g, og + (n - 1), none⟩ = some (.string (mkB lst)) := by
      refine hk (n - 1) (mkB lst) ?_
      simp [tl, hlst]
    have q1 : ((mkB lst).toList == [35]) = false := by rw [un_list, un_mk]; simp [hne]
    have RX : Hid (Row w1 (.slice (some ⟨g, og, none⟩) n cap) (x.map mkB)) := by
      show Row _ _ _
      have := RV.out
      simpa [tl] using this
    clear hk hx hg hn hb hnp hc RV hlst hne hxn
    go_wp2_with fail
    go_ret2
    exact ⟨⟨_, rfl, RX.out⟩, B1.out⟩
end Go.Proofs.Ytglnldopnoafoaa
