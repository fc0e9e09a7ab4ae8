import Derived.Test.YtglnldopnoafoaaWi
import Derived.Lib.LazyBuf
namespace Go.Proofs.Ytglnldopnoafoaa
open Go Go.RowKit
set_option linter.unusedSimpArgs false
set_option linter.unusedVariables false

/-- The world behind an insertion of one text into a row without room. -/
theorem insert_row (w : World) (n i G : Nat) (hi : i < n) (hG : n + 1 ≤ G) (xs : List ByteArray) (y : ByteArray) (hx : xs.length = n) (W : World) (hW : W = (((w.alloc (.cells (((xs.map Value.string).take i).toArray ++ Builtin.zeroCells (Value.string ⟨#[]⟩).cells (n + 1 - i) ++ Builtin.zeroCells (Value.string ⟨#[]⟩).cells (G - (n + 1))) 9)).drew.setCells w.heap.size i [Value.string y]).drew).setCells w.heap.size (i + 1) ((xs.map Value.string).drop i)) : Row W (.slice (some ⟨w.heap.size, 0, none⟩) (n + 1) G) (xs.take i ++ y :: xs.drop i) ∧ Below w.heap.size w W := by
  obtain ⟨ROW, hROW⟩ : ∃ ROW : Array Value, ROW = ((xs.map Value.string).take i).toArray ++ Builtin.zeroCells (Value.string ⟨#[]⟩).cells (n + 1 - i) ++ Builtin.zeroCells (Value.string ⟨#[]⟩).cells (G - (n + 1)) := ⟨_, rfl⟩
  rw [← hROW] at hW
  have hsz : n + 1 ≤ ROW.size := by
    rw [hROW]
    simp [Builtin.zeroCells, Value.cells, hx]
    omega
  have hR : ∀ k, k < i → ROW[k]? = some (Value.string (xs[k]?.getD ⟨#[]⟩)) := by
    intro k hk
    have hkx : k < xs.length := by omega
    rw [hROW, Array.append_assoc, Array.getElem?_append_left (by simp [hx]; omega)]
    simp [hk, hkx]
  obtain ⟨W1, hW1⟩ : ∃ W1, W1 = (w.alloc (.cells ROW 9)).drew := ⟨_, rfl⟩
  have c1 : ∀ k, W1.cell? ⟨w.heap.size, k, none⟩ = ROW[k]? := fun k => by rw [hW1]; exact World.cell?_alloc_at ROW 9 _ k rfl
  have s1 : ∀ k, k < n + 1 → (W1.cell? ⟨w.heap.size, k, none⟩).isSome = true := fun k hk => by rw [c1, Array.getElem?_eq_getElem (by omega)]; rfl
  obtain ⟨W2, hW2⟩ : ∃ W2, W2 = (W1.setCells w.heap.size i [Value.string y]).drew := ⟨_, rfl⟩
  rw [← hW1, ← hW2] at hW
  have c2 : ∀ x, W2.cell? x = (W1.setCells w.heap.size i [Value.string y]).cell? x := fun x => by rw [hW2]; rfl
  have c2i : W2.cell? ⟨w.heap.size, i, none⟩ = some (Value.string y) := by
    rw [c2]
    have := World.cell?_setCells_in w.heap.size [Value.string y] i W1 (fun j hj => s1 _ (by simp at hj; omega)) 0 (by simp)
    simpa using this
  have c2o : ∀ k, k ≠ i → W2.cell? ⟨w.heap.size, k, none⟩ = ROW[k]? := fun k hk => by
    rw [c2, World.cell?_setCells_out _ _ _ _ _ (fun _ _ => by simp; omega), c1]
  have s2 : ∀ k, k < n + 1 → (W2.cell? ⟨w.heap.size, k, none⟩).isSome = true := fun k hk => by
    by_cases e : k = i
    · rw [e, c2i]; rfl
    · rw [c2o k e, ← c1]; exact s1 k hk
  have hsW : W.heap.size = w.heap.size + 1 ∧ Below w.heap.size w W := by
    have b1 : Below w.heap.size w W1 := by rw [hW1]; exact ((Below.refl _ _).alloc (Nat.le_refl _) _).drew
    have b2 : Below w.heap.size w W2 := by rw [hW2]; exact (below_setCells (Nat.le_refl _) _ _ _ b1).drew
    have b3 : Below w.heap.size w W := by rw [hW]; exact below_setCells (Nat.le_refl _) _ _ _ b2
    refine ⟨?_, b3⟩
    have hz : ∀ (vs : List Value) (o : Nat) (u : World), (u.setCells w.heap.size o vs).heap.size = u.heap.size := by
      intro vs
      induction vs with
      | nil => intro o u; rfl
      | cons v r ih => intro o u; rw [World.setCells, ih]; simp [World.setCell]
    rw [hW, hz, hW2]
    show (W1.setCells w.heap.size i [Value.string y]).heap.size = _
    rw [hz, hW1]
    show (w.alloc (.cells ROW 9)).heap.size = _
    simp
  refine ⟨⟨_, _, _, rfl, by simp [hx]; omega, hG, fun _ => ⟨w.heap.size, 0, rfl, by rw [hsW.1]; omega, fun k x hk => ?_⟩⟩, hsW.2⟩
  rw [Nat.zero_add, hW]
  have hkn : k < n + 1 := by
    have := (List.getElem?_eq_some_iff.1 hk).1
    simp [hx] at this
    omega
  by_cases h1 : k < i
  · rw [World.cell?_setCells_out _ _ _ _ _ (fun _ _ => by left; show k < i + 1; omega), c2o k (by omega), hR k h1]
    rw [List.getElem?_append_left (by simp [hx]; omega)] at hk
    simp [h1] at hk
    simp [hk]
  · by_cases h2 : k = i
    · subst h2
      rw [World.cell?_setCells_out _ _ _ _ _ (fun _ _ => by left; show k < k + 1; omega), c2i]
      rw [List.getElem?_append_right (by rw [List.length_take]; omega)] at hk
      rw [List.length_take, hx, Nat.min_eq_left (Nat.le_of_lt hi), Nat.sub_self] at hk
      simp at hk
      rw [hk]
    · obtain ⟨j, rfl⟩ : ∃ j, k = i + 1 + j := ⟨k - (i + 1), by omega⟩
      have hj : j < ((xs.map Value.string).drop i).length := by simp [hx]; omega
      have := World.cell?_setCells_in w.heap.size ((xs.map Value.string).drop i) (i + 1) W2 (fun t ht => s2 _ (by simp [hx] at ht; omega)) j hj
      rw [this]
      rw [List.getElem?_append_right (by simp; omega)] at hk
      simp only [List.length_take, hx, Nat.min_eq_left (Nat.le_of_lt hi)] at hk
      rw [show i + 1 + j - i = j + 1 by omega, List.getElem?_cons_succ, List.getElem?_drop] at hk
      obtain ⟨hlt, hv⟩ := List.getElem?_eq_some_iff.1 hk
      simp [hv]
set_option maxRecDepth 100000 in
set_option maxHeartbeats 1000000 in
theorem lv_wrong (f : ByteArray) (h : ¬ rfc f = 0) (w : World) : Calls Try.prog 17 #[.string f] w fun e w' => ∃ v, e = .returned v ∧ Row w' v ((lvO f).map mkB) ∧ Below w.heap.size w w' ∧ ∀ g, v.ownBlock = some g → w.heap.size ≤ g := by
  rw [lvO_no h]
  have HC : Hid (Calls Try.prog 34 #[.string f] w fun e w' => e = .returned (.int .i64 (rfc f)) ∧ Below w.heap.size w w') := fcheck_any f w
  obtain ⟨c, hc⟩ : ∃ c, rfc f = c := ⟨_, rfl⟩
  rw [hc] at HC h
  have q : (c != 0) = true := by simp [h]
  have R0 : Hid (∀ W : World, Row W (.slice none 0 0) (([] : List Bs).map mkB)) := fun W => ⟨none, 0, 0, rfl, rfl, Nat.le_refl _, fun h => absurd rfl h⟩
  clear hc h
  go_enter Try.func17, Try.ntmps17
  go_wp2_with fail
  go_must (go_at_call 34)
  refine HC.out.mono ?_
  rintro e w1 ⟨rfl, hb⟩
  have HB : Hid (Below w.heap.size w w1) := hb
  clear hb
  go_wp2_with fail
  go_ret
  exact ⟨_, rfl, R0.out _, HB.out, fun g hg => by cases hg⟩
theorem lvO_plain {f : ByteArray} (h : rfc f = 0) (h1 : ¬ unB f = [35]) (h2 : ¬ unB f = [47, 35]) : (lvO f).map mkB = levels f := by
  unfold lvO
  rw [if_pos h, if_neg h1, if_neg h2, levels_mk]
set_option maxRecDepth 100000 in
set_option maxHeartbeats 1000000 in
theorem lv_plain (f : ByteArray) (h : rfc f = 0) (h1 : ¬ unB f = [35]) (h2 : ¬ unB f = [47, 35]) (w : World) : Calls Try.prog 17 #[.string f] w fun e w' => ∃ v, e = .returned v ∧ Row w' v ((lvO f).map mkB) ∧ Below w.heap.size w w' ∧ ∀ g, v.ownBlock = some g → w.heap.size ≤ g := by
  rw [lvO_plain h h1 h2]
  have HC : Hid (Calls Try.prog 34 #[.string f] w fun e w' => e = .returned (.int .i64 0) ∧ Below w.heap.size w w') := by have := fcheck_any f w; rw [h] at this; exact this
  have HL : Hid (f.size ≤ 1000000) := by have := (rfc_zero h).1; show _ ≤ _; omega
  have q1 : (f.toList == [35]) = false := by rw [eq_one']; simp [h1]
  have q2 : (f.toList == [47, 35]) = false := by
    have := eq_two f ⟨#[47, 35]⟩
    rw [show (⟨#[47, 35]⟩ : ByteArray).toList = [47, 35] from un_list ⟨#[47, 35]⟩] at this
    rw [this]; simp; exact h2
  clear h h1 h2
  go_enter Try.func17, Try.ntmps17
  go_wp2_with fail
  go_must (go_at_call 34)
  refine HC.out.mono ?_
  rintro e w1 ⟨rfl, hb⟩
  have HB : Hid (Below w.heap.size w w1) := hb
  clear hb
  go_wp2_with fail
  go_must (go_at_call 36)
  refine (tlevels_cap f HL.out w1).mono ?_
  rintro e w2 ⟨rfl, ho, hb⟩
  have HB2 : Hid (Below w.heap.size w w2) := HB.out.trans (hb.mono HB.out.size)
  have HR : Hid (Row w2 (.slice (some ⟨w1.heap.size, 0, none⟩) (levels f).length (levels f).length) (levels f)) := row_of ho
  clear ho hb
  go_wp2_with fail
  go_ret
  refine ⟨.slice (some ⟨w1.heap.size, 0, none⟩) (levels f).length (levels f).length, rfl, HR.out, HB2.out, fun g hg => ?_⟩
  have hg2 : some w1.heap.size = some g := hg
  simp only [Option.some.injEq] at hg2
  rw [← hg2]
  exact HB.out.size
theorem insert_any (b n : Nat) (xs : List ByteArray) (hx : xs.length = n) (hn : 0 < n) (hn2 : n ≤ 1000) (w : World) (vb : Nat) (h : w.ownsRow b 9 1 (.slice (some ⟨b, 0, none⟩) n n) n (xs.map Value.string)) (hv : w.cell? ⟨vb, 0, none⟩ = some (.string ⟨#[43]⟩)) : Calls Try.prog 41 #[.slice (some ⟨b, 0, none⟩) n n, .int .i64 ((n - 1 : Nat) : Int), .slice (some ⟨vb, 0, none⟩) 1 1] w fun e w' => ∃ v, e = .returned v ∧ Row w' v (xs.take (n - 1) ++ ⟨#[43]⟩ :: xs.drop (n - 1)) ∧ Below w.heap.size w w' ∧ v.ownBlock = some w.heap.size := by
  have hc : ∀ j v, (xs.map Value.string)[j]? = some v → w.cell? ⟨b, 0 + j, none⟩ = some v := by
    intro j v hj
    have := h.cells (g := b) rfl j v hj
    rw [Nat.zero_add]
    cases j with
    | zero => exact this
    | succ j => simpa [Addr.add] using this
  have := Any2.slices_Insert_string_grow Try.laysNm222 b 0 n n (n - 1) vb 0 1 1 (xs.map Value.string) [.string ⟨#[43]⟩] w (by omega) (by omega) (Nat.le_refl _) (by omega) (by omega) (by simpa using hx) rfl hc (fun j v hj => by
    cases j with
    | zero => simp at hj; subst hj; exact hv
    | succ j => simp at hj) (by intro v hv; simp at hv; obtain ⟨a, _, rfl⟩ := hv; rfl) (by intro v hv; simp at hv; subst hv; rfl)
  refine Calls.mono (show Calls Try.prog 41 _ w _ from this) ?_
  rintro e w' ⟨rfl, hw⟩
  obtain ⟨h1, h2⟩ := insert_row w n (n - 1) _ (by omega) (grownCap_ge _ _ _ _) xs ⟨#[43]⟩ hx w' hw
  exact ⟨_, rfl, h1, h2, rfl⟩
theorem lvO_sign {f : ByteArray} (h : rfc f = 0) (h1 : unB f = [35] ∨ unB f = [47, 35]) : (lvO f).map mkB = (levels f).take ((levels f).length - 1) ++ ⟨#[43]⟩ :: (levels f).drop ((levels f).length - 1) ∧ (levels f).length ≤ 2 := by
  unfold lvO
  rw [if_pos h]
  rcases h1 with h1 | h1
  · rw [if_pos h1, levels_mk, h1]
    exact ⟨by decide, by decide⟩
  · have : ¬ unB f = [35] := by rw [h1]; decide
    rw [if_neg this, if_pos h1, levels_mk, h1]
    exact ⟨by decide, by decide⟩
set_option maxRecDepth 100000 in
set_option maxHeartbeats 1000000 in
theorem lv_sign (f : ByteArray) (h : rfc f = 0) (h1 : unB f = [35] ∨ unB f = [47, 35]) (w : World) : Calls Try.prog 17 #[.string f] w fun e w' => ∃ v, e = .returned v ∧ Row w' v ((lvO f).map mkB) ∧ Below w.heap.size w w' ∧ ∀ g, v.ownBlock = some g → w.heap.size ≤ g := by
  obtain ⟨hv, hle⟩ := lvO_sign h h1
  rw [hv]
  have hpos : 0 < (levels f).length := lvs_pos f f.size 0 0
  have HC : Hid (Calls Try.prog 34 #[.string f] w fun e w' => e = .returned (.int .i64 0) ∧ Below w.heap.size w w') := by have := fcheck_any f w; rw [h] at this; exact this
  have HL : Hid (f.size ≤ 1000000) := by have := (rfc_zero h).1; show _ ≤ _; omega
  obtain ⟨b1, q1⟩ : ∃ b1, (f.toList == [35]) = b1 := ⟨_, rfl⟩
  have HQ2 : Hid (b1 = false → (f.toList == [47, 35]) = true) := by
    intro hb
    rw [hb, eq_one'] at q1
    have h3 : ¬ unB f = [35] := by simpa using q1
    have := eq_two f ⟨#[47, 35]⟩
    rw [show (⟨#[47, 35]⟩ : ByteArray).toList = [47, 35] from un_list ⟨#[47, 35]⟩] at this
    rw [this]
    rcases h1 with h1 | h1
    · exact absurd h1 h3
    · simp; exact h1
  obtain ⟨n, hn⟩ : ∃ n, (levels f).length = n := ⟨_, rfl⟩
  have HN : Hid ((levels f).length = n ∧ 0 < n ∧ n ≤ 2) := ⟨hn, by omega, by omega⟩
  rw [hn] at hpos hle ⊢
  have TL : Hid (∀ w1, Calls Try.prog 36 #[.string f] w1 fun e w' => e = .returned (.slice (some ⟨w1.heap.size, 0, none⟩) n n) ∧ w'.ownsRow w1.heap.size 9 1 (.slice (some ⟨w1.heap.size, 0, none⟩) n n) n ((levels f).map Value.string) ∧ Below w1.heap.size w1 w') := fun w1 => by have := tlevels_cap f HL.out w1; rw [hn] at this; exact this
  have p1 : IntKind.i64.wrap ((n : Int) - 1) = ((n - 1 : Nat) : Int) := by rw [IntKind.wrap_i64]; omega
  clear h h1 hv hn hpos hle
  go_enter Try.func17, Try.ntmps17
  go_wp2_with fail
  go_must (go_at_call 34)
  refine HC.out.mono ?_
  rintro e w1 ⟨rfl, hb⟩
  have HB : Hid (Below w.heap.size w w1) := hb
  clear hb
  go_wp2_with fail
  go_must (go_at_call 36)
  refine (TL.out w1).mono ?_
  rintro e w2 ⟨rfl, ho, hb⟩
  have HB2 : Hid (Below w.heap.size w w2) := HB.out.trans (hb.mono HB.out.size)
  have HO : Hid (w2.ownsRow w1.heap.size 9 1 (.slice (some ⟨w1.heap.size, 0, none⟩) n n) n ((levels f).map Value.string)) := ho
  have HI : Hid (Calls Try.prog 41 #[.slice (some ⟨w1.heap.size, 0, none⟩) n n, .int .i64 ((n - 1 : Nat) : Int), .slice (some ⟨w2.heap.size, 0, none⟩) 1 1] (w2.alloc (.cells #[.string ⟨#[43]⟩] 9)) fun e w' => ∃ v, e = .returned v ∧ Row w' v ((levels f).take (n - 1) ++ ⟨#[43]⟩ :: (levels f).drop (n - 1)) ∧ Below w.heap.size w w' ∧ ∀ g, v.ownBlock = some g → w.heap.size ≤ g) := by
    refine (insert_any w1.heap.size n (levels f) HN.out.1 HN.out.2.1 (by have := HN.out; omega) _ w2.heap.size (HO.out.alloc _) (cell_one_new _ _ _ 0 _ rfl)).mono ?_
    rintro e w' ⟨v, rfl, hr, hb, hv⟩
    refine ⟨v, rfl, hr, (HB2.out.alloc HB2.out.size _).trans (hb.mono (by have := HB2.out.size; simp; omega)), fun g hg => ?_⟩
    rw [hv] at hg
    simp at hg
    have := HB2.out.size
    omega
  clear ho hb
  cases b1 with
  | true =>
    go_wp2_with fail
    go_must (go_at_call 41)
    refine HI.out.mono ?_
    rintro e w3 ⟨v, rfl, hr, hb, hv⟩
    have HV : Hid (∀ g, v.ownBlock = some g → w.heap.size ≤ g) := hv
    clear hv
    have HR3 : Hid (Row w3 v ((levels f).take (n - 1) ++ ⟨#[43]⟩ :: (levels f).drop (n - 1))) := hr
    have HB3 : Hid (Below w.heap.size w w3) := hb
    clear hr hb
    go_wp2_with fail
    go_ret
    exact ⟨_, rfl, HR3.out, HB3.out, HV.out⟩
  | false =>
    have q2 := HQ2.out rfl
    go_wp2_with fail
    go_must (go_at_call 41)
    refine HI.out.mono ?_
    rintro e w3 ⟨v, rfl, hr, hb, hv⟩
    have HV : Hid (∀ g, v.ownBlock = some g → w.heap.size ≤ g) := hv
    clear hv
    have HR3 : Hid (Row w3 v ((levels f).take (n - 1) ++ ⟨#[43]⟩ :: (levels f).drop (n - 1))) := hr
    have HB3 : Hid (Below w.heap.size w w3) := hb
    clear hr hb
    go_wp2_with fail
    go_ret
    exact ⟨_, rfl, HR3.out, HB3.out, HV.out⟩
theorem lvN_any (f : ByteArray) (w : World) : Calls Try.prog 17 #[.string f] w fun e w' => ∃ v, e = .returned v ∧ Row w' v ((lvO f).map mkB) ∧ Below w.heap.size w w' ∧ ∀ g, v.ownBlock = some g → w.heap.size ≤ g := by
  by_cases h : rfc f = 0
  · by_cases h1 : unB f = [35]
    · exact lv_sign f h (.inl h1) w
    · by_cases h2 : unB f = [47, 35]
      · exact lv_sign f h (.inr h2) w
      · exact lv_plain f h h1 h2 w
  · exact lv_wrong f h w
theorem lv_any (f : ByteArray) (w : World) : Calls Try.prog 17 #[.string f] w fun e w' => ∃ v, e = .returned v ∧ Row w' v ((lvO f).map mkB) ∧ Below w.heap.size w w' := by
  refine (lvN_any f w).mono ?_
  rintro e w' ⟨v, he, hr, hb, -⟩
  exact ⟨v, he, hr, hb⟩
end Go.Proofs.Ytglnldopnoafoaa
