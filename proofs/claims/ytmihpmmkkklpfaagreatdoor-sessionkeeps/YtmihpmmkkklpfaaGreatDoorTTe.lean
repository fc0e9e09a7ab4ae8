import Derived.Test.YtmihpmmkkklpfaaGreatDoorTTd
namespace Go.Proofs.YtmihpmmkkklpfaaGreatDoor.Tp
open Go Go.RowKit
set_option linter.unusedSimpArgs false
set_option linter.unusedVariables false


theorem dec_low (v c d e f : Nat) (hv : v < 128) : ((dec c d e f).1 = v ↔ c = v) := by
  unfold dec
  by_cases k1 : c < 0x80
  · rw [if_pos k1]
  rw [if_neg k1]
  by_cases k2 : c / 32 = 6 ∧ d / 64 = 2
  · rw [if_pos k2]
    split
    · simp only; omega
    · simp only; omega
  rw [if_neg k2]
  by_cases k3 : c / 16 = 14 ∧ d / 64 = 2 ∧ e / 64 = 2
  · rw [if_pos k3]
    split
    · simp only; omega
    · simp only; omega
  rw [if_neg k3]
  by_cases k4 : c / 8 = 30 ∧ d / 64 = 2 ∧ e / 64 = 2 ∧ f / 64 = 2
  · rw [if_pos k4]
    split
    · simp only; omega
    · simp only; omega
  rw [if_neg k4]
  simp only; omega
def NoS (s : ByteArray) (j : Nat) : Prop := ¬ atB s j = 43 ∧ ¬ atB s j = 35
theorem rune_sign (s : ByteArray) (k r n : Nat) (hk : k < s.size) (hd : Utf8.decode s k = (r, n)) : 1 ≤ n ∧ k + n ≤ s.size ∧ (r = 43 ↔ atB s k = 43) ∧ (r = 35 ↔ atB s k = 35) ∧ (¬ r = 43 → ¬ r = 35 → ∀ j, k ≤ j → j < k + n → NoS s j) := by
  have h1 := dec_low 43 (atB s k) (atB s (k + 1)) (atB s (k + 2)) (atB s (k + 3)) (by decide)
  have h1' := dec_low 35 (atB s k) (atB s (k + 1)) (atB s (k + 2)) (atB s (k + 3)) (by decide)
  have h2 := dec_sg (atB s k) (atB s (k + 1)) (atB s (k + 2)) (atB s (k + 3))
  obtain ⟨g1, g5, _⟩ := rune_at s k r n hk hd
  rw [← decode_dec, hd] at h1 h2 h1'
  simp only at h1 h2 h1'
  obtain ⟨_, n4, _, g2, g3, g4⟩ := h2
  refine ⟨g1, g5, h1, h1', ?_⟩
  intro hr hr' j j1 j2
  have hc : j = k ∨ j = k + 1 ∨ j = k + 2 ∨ j = k + 3 := by omega
  rcases hc with rfl | rfl | rfl | rfl
  · exact ⟨fun h => hr (h1.2 h), fun h => hr' (h1'.2 h)⟩
  · have := g2 (by omega); exact ⟨by omega, by omega⟩
  · have := g3 (by omega); exact ⟨by omega, by omega⟩
  · have := g4 (by omega); exact ⟨by omega, by omega⟩
theorem isHash_iff (t : ByteArray) : isHash t = true ↔ unB t = [35] := by
  unfold isHash; rw [eq_one]; simp
theorem one_byte (t : ByteArray) (h : t.size = 1) : unB t = [UInt8.ofNat (atB t 0)] := by
  have hl : (unB t).length = 1 := by rw [un_size]; exact h
  match hu : unB t, hl with
  | [c], _ =>
    have := atB_un t 0
    rw [hu] at this
    simp at this
    rw [this]; simp
theorem hash_byte (t : ByteArray) (h : isHash t = true) : t.size = 1 ∧ atB t 0 = 35 := by
  have h1 := (isHash_iff t).1 h
  have h2 : (unB t).length = 1 := by rw [h1]; rfl
  refine ⟨by rw [← un_size]; exact h2, ?_⟩
  rw [atB_un, h1]; rfl
theorem lvX_none (t : ByteArray) (more : Bool) (h : ∀ j, j < t.size → NoS t j) : lvX t more = false := by
  have h1 : hasS t = false := by
    cases hh : hasS t with
    | false => rfl
    | true =>
      obtain ⟨i, hi, h2⟩ := (hsN_iff t t.size).1 hh
      have := h i hi
      rcases h2 with h2 | h2
      · exact absurd h2 this.1
      · exact absurd h2 this.2
  have h2 : isHash t = false := by
    cases hh : isHash t with
    | false => rfl
    | true =>
      obtain ⟨a, b⟩ := hash_byte t hh
      exact absurd b (h 0 (by omega)).2
  simp [lvX, h1, h2]
theorem lvX_long (t : ByteArray) (more : Bool) (k : Nat) (hk : k < t.size) (h : atB t k = 43 ∨ atB t k = 35) (h1 : 1 < t.size) : lvX t more = true := by
  have : hasS t = true := (hsN_iff t t.size).2 ⟨k, hk, h⟩
  simp [lvX, this, h1]
theorem lvX_plus (t : ByteArray) (more : Bool) (hk : 0 < t.size) (h : atB t 0 = 43) (h1 : ¬ 1 < t.size) : lvX t more = false := by
  have h2 : isHash t = false := by
    cases hh : isHash t with
    | false => rfl
    | true =>
      obtain ⟨a, b⟩ := hash_byte t hh
      omega
  simp [lvX, h1, h2]
theorem lvX_hash (t : ByteArray) (more : Bool) (hk : 0 < t.size) (h : atB t 0 = 35) (h1 : ¬ 1 < t.size) : lvX t more = more := by
  have h2 : isHash t = true := (isHash_iff t).2 (by rw [one_byte t (by omega), h]; rfl)
  simp [lvX, h1, h2]

set_option maxRecDepth 100000 in
set_option maxHeartbeats 4000000 in
theorem misplaced_any (l : List ByteArray) (v : Value) (w : World) (R : Row w v l) (hl : l.length ≤ 1000001) (hz : ∀ t ∈ l, t.size ≤ 1000000) : Calls Tryz.prog 104 #[v] w fun e w' => e = .returned (.bool (lvAny l)) ∧ Below w.heap.size w w' := by
  obtain ⟨x, hx⟩ : ∃ x, x = lvAny l := ⟨_, rfl⟩
  rw [← hx]
  have HX : Hid (x = lvAny (l.drop 0)) := hx
  obtain ⟨a, n, cap, rfl, hn, hc, hrow⟩ := R
  have HN : Hid (n = l.length ∧ n ≤ cap ∧ l.length ≤ 1000001) := ⟨hn, hc, hl⟩
  have HZ : Hid (∀ t ∈ l, t.size ≤ 1000000) := hz
  have HA : Hid (l ≠ [] → ∃ g o, a = some ⟨g, o, none⟩ ∧ g < w.heap.size ∧ ∀ k x, l[k]? = some x → w.cell? ⟨g, o + k, none⟩ = some (.string x)) := hrow
  clear hx hn hc hl hz hrow
  go_enter Tryz.func104, Tryz.ntmps104
  go_wp2_with fail
  go_step3
  go_wp2_with fail
  go_step3
  go_wp2_with fail
  go_loopg [3, 10] n (fun gg s3 s10 wx => ∃ k : Nat, k ≤ n ∧ gg = n - k ∧ s3 = .bool false ∧ s10 = .int .i64 k ∧ Hid (Below w.heap.size w wx) ∧ Hid (x = lvAny (l.drop k)))
  case atStart => exact ⟨0, Nat.zero_le _, rfl, rfl, rfl, Below.refl _ _, HX⟩
  case round =>
    obtain ⟨k, hk, rfl, rfl, rfl, B, HE⟩ := hrel
    by_cases hlt : k < n
    · have hlt' : (k : Int) < n := by omega
      obtain ⟨t, ht⟩ : ∃ t, l[k]? = some t := ⟨_, List.getElem?_eq_getElem (by have := HN.out.1; omega)⟩
      obtain ⟨g, o, rfl, hg, hcells⟩ := HA.out (fun e => by subst e; simp at ht)
      have c1 : wr.cell? ⟨g, o + k, none⟩ = some (.string t) := by rw [B.out.cell (by exact hg)]; exact hcells k t ht
      have hcap := HN.out.2.1
      have hw : IntKind.i64.wrap ((k : Int) + 1) = (k : Int) + 1 := by rw [IntKind.wrap_i64]; have := HN.out; omega
      have hw2 : IntKind.i64.wrap ((n : Int) - 1) = (n : Int) - 1 := by rw [IntKind.wrap_i64]; have := HN.out; omega
      have HS : Hid (lvAny (l.drop k) = (lvX t (decide (k + 1 < n)) || lvAny (l.drop (k + 1)))) := by
        show _ = _
        obtain ⟨hi, e⟩ := List.getElem?_eq_some_iff.1 ht
        have hnn := HN.out.1
        rw [List.drop_eq_getElem_cons hi, e]
        simp only [lvAny]
        congr 2
        by_cases hm : k + 1 < n
        · rw [decide_eq_true hm]; cases hd : List.drop (k + 1) l with
          | nil => have := congrArg List.length hd; simp at this; omega
          | cons a r => rfl
        · rw [decide_eq_false hm, List.drop_eq_nil_of_le (by omega)]; rfl
      have HBad : Hid (lvX t (decide (k + 1 < n)) = true → x = true) := fun h => by rw [HE.out, HS.out, h]; rfl
      have HOk : Hid (lvX t (decide (k + 1 < n)) = false → x = lvAny (l.drop (k + 1))) := fun h => by rw [HE.out, HS.out, h]; rfl
      have HTz : Hid (t.size ≤ 1000000) := HZ.out t (List.mem_of_getElem? ht)
      obtain ⟨w0, hw0⟩ : ∃ w0, w0 = wr := ⟨_, rfl⟩
      have BI : Hid (Below w.heap.size w (w0.iter t 0)) := by show Below _ _ _; rw [hw0]; exact B.out.trans ((below_iter wr t 0).mono B.out.size)
      have BH : Hid (w.heap.size ≤ w0.heap.size) := by show w.heap.size ≤ w0.heap.size; rw [hw0]; exact B.out.size
      have II : Hid ((w0.iter t 0).heap[w0.heap.size]? = some (.stringIter t 0)) := World.iter_heap w0 t 0
      rw [← hw0] at c1 ⊢
      clear hw0 B HS HE hcells ht hg
      have P0 : Hid ((0 < t.size → ∀ j, j < 0 → NoS t j) ∧ (¬ 0 < t.size → lvX t (decide (k + 1 < n)) = false)) := ⟨fun _ j hj => by omega, fun h => lvX_none t _ (fun j hj => by omega)⟩
      obtain ⟨more, hmore⟩ : ∃ more, more = decide (k + 1 < n) := ⟨_, rfl⟩
      rw [← hmore] at HBad HOk P0
      have hmI : decide ((k : Int) < (n : Int) - 1) = more := by rw [hmore]; exact decide_eq_decide.2 (by omega)
      clear hmore
      go_wp2_with fail
      go_loopg [3] t.size (fun g2 s3 wy => ∃ q : Nat, q ≤ t.size ∧ g2 = t.size - q ∧ s3 = .bool false ∧ Hid (Below w.heap.size w wy) ∧ Hid (wy.heap[w0.heap.size]? = some (.stringIter t q)) ∧ Hid ((q < t.size → ∀ j, j < q → NoS t j) ∧ (¬ q < t.size → lvX t more = false)))
      case atStart => exact ⟨0, Nat.zero_le _, rfl, rfl, BI, II, P0⟩
      case round =>
        obtain ⟨q, hq, rfl, rfl, B, HI, HP⟩ := hrel
        by_cases hqt : q < t.size
        · obtain ⟨r, m, hd⟩ : ∃ r m, Utf8.decode t q = (r, m) := ⟨_, _, rfl⟩
          obtain ⟨m1, m2, m3, m4, m5⟩ := rune_sign t q r m hqt hd
          have hnx := fun ty => next_at HI.out ty hqt r m hd
          have hit2 := setIt_heap (k' := q + m) HI.out
          have B2 := setIt_below B.out w0.heap.size BH.out t (q + m)
          generalize setIt wr w0.heap.size t (q + m) = w2 at *
          have HB2 : Hid (Below w.heap.size w w2) := B2
          have HI2 : Hid (w2.heap[w0.heap.size]? = some (.stringIter t (q + m))) := hit2
          clear B2 hit2 hd HI B
          by_cases h43 : r = 43
          · subst h43
            have hat := m3.1 rfl
            by_cases h1 : 1 < t.size
            · have h1' : (1 : Int) < t.size := by omega
              have HR : Hid (x = true) := HBad.out (lvX_long t _ q hqt (.inl hat) h1)
              clear m1 m2 m3 m4 m5 hat h1
              go_wp2_with fail
              try rw [Exit.noGoto_ret]
              go_ret
              exact ⟨by rw [HR.out]; rfl, HB2.out⟩
            · have h1' : ¬ (1 : Int) < t.size := by omega
              obtain rfl : q = 0 := by omega
              have HF : Hid (lvX t more = false) := lvX_plus t _ hqt hat h1
              have HM : Hid (1 ≤ m ∧ 0 + m ≤ t.size) := ⟨m1, m2⟩
              have HP2 : Hid ((0 + m < t.size → ∀ j, j < 0 + m → NoS t j) ∧ (¬ 0 + m < t.size → lvX t more = false)) := ⟨fun h => by omega, fun _ => HF.out⟩
              clear m1 m2 m3 m4 m5 hat h1
              go_wp2_with fail
              go_roundg (t.size - (0 + m))
              case measure => have := HM.out; omega
              case rel => exact ⟨0 + m, HM.out.2, rfl, rfl, HB2, HI2, HP2⟩
          have e43 : ((r : Int) == 43) = false := by rw [beq_eq_false_iff_ne]; omega
          by_cases h35 : r = 35
          · subst h35
            have hat := m4.1 rfl
            by_cases h1 : 1 < t.size
            · have h1' : (1 : Int) < t.size := by omega
              have HR : Hid (x = true) := HBad.out (lvX_long t _ q hqt (.inr hat) h1)
              clear m1 m2 m3 m4 m5 hat h1
              go_wp2_with fail
              try rw [Exit.noGoto_ret]
              go_ret
              exact ⟨by rw [HR.out]; rfl, HB2.out⟩
            · have h1' : ¬ (1 : Int) < t.size := by omega
              obtain rfl : q = 0 := by omega
              have HV : Hid (lvX t more = more) := lvX_hash t _ hqt hat h1
              cases more with
              | true =>
                have hmI' : (k : Int) < (n : Int) - 1 := of_decide_eq_true hmI
                have HR : Hid (x = true) := HBad.out HV.out
                clear m1 m2 m3 m4 m5 hat h1
                go_wp2_with fail
                try rw [Exit.noGoto_ret]
                go_ret
                exact ⟨by rw [HR.out]; rfl, HB2.out⟩
              | false =>
                have hmI' : ¬ (k : Int) < (n : Int) - 1 := of_decide_eq_false hmI
                have HM : Hid (1 ≤ m ∧ 0 + m ≤ t.size) := ⟨m1, m2⟩
                have HP2 : Hid ((0 + m < t.size → ∀ j, j < 0 + m → NoS t j) ∧ (¬ 0 + m < t.size → lvX t false = false)) := ⟨fun h => by omega, fun _ => HV.out⟩
                clear m1 m2 m3 m4 m5 hat h1
                go_wp2_with fail
                go_roundg (t.size - (0 + m))
                case measure => have := HM.out; omega
                case rel => exact ⟨0 + m, HM.out.2, rfl, rfl, HB2, HI2, HP2⟩
          have e35 : ((r : Int) == 35) = false := by rw [beq_eq_false_iff_ne]; omega
          have HM : Hid (1 ≤ m ∧ q + m ≤ t.size) := ⟨m1, m2⟩
          have hno : ∀ j, j < q + m → NoS t j := fun j hj => by
            by_cases hjq : j < q
            · exact HP.out.1 hqt j hjq
            · exact m5 h43 h35 j (by omega) hj
          have HP2 : Hid ((q + m < t.size → ∀ j, j < q + m → NoS t j) ∧ (¬ q + m < t.size → lvX t more = false)) := ⟨fun _ => hno, fun h => lvX_none t _ (fun j hj => hno j (by omega))⟩
          clear m1 m2 m3 m4 m5 hno h43 h35
          go_wp2_with fail
          go_roundg (t.size - (q + m))
          case measure => have := HM.out; omega
          case rel => exact ⟨q + m, HM.out.2, rfl, rfl, HB2, HI2, HP2⟩
        · have hnx := fun ty => next_end HI.out ty hqt
          have HE2 : Hid (x = lvAny (l.drop (k + 1))) := HOk.out (HP.out.2 hqt)
          go_wp2_with fail
          go_roundg (n - (k + 1))
          case measure => omega
          case rel => exact ⟨k + 1, by omega, by omega, rfl, by first | rfl | simp, B, HE2⟩
    · obtain rfl : k = n := by omega
      have hlt' : ¬ (k : Int) < k := by omega
      have HR : Hid (x = false) := by show _ = _; rw [HE.out, List.drop_eq_nil_of_le (by have := HN.out.1; omega)]; rfl
      go_wp2_with fail
      try rw [Exit.noGoto_ret]
      go_ret
      exact ⟨by rw [HR.out]; rfl, B.out⟩


theorem row_of {w : World} {B : Nat} {v : Value} {xs : List ByteArray} (ho : w.ownsRow B 9 1 v xs.length (xs.map Value.string)) : Row w v xs := by
  rcases ho.2 with ⟨rfl, h⟩ | ⟨g, cap, cur, rfl, hb, hg, hnc, hm, hcs, htk⟩
  · exact ⟨none, 0, 0, rfl, h.symm, Nat.le_refl _, fun hne => absurd (List.eq_nil_of_length_eq_zero h) hne⟩
  · refine ⟨_, _, cap, rfl, rfl, hnc, fun hne => ⟨g, 0, rfl, block_lt hg, fun k x hk => ?_⟩⟩
    have hlt : k < xs.length := by
      rcases Nat.lt_or_ge k xs.length with h | h
      · exact h
      · rw [List.getElem?_eq_none h] at hk; cases hk
    rw [Nat.zero_add, ho.cellAt k (by omega)]
    simp [List.getElem?_map, hk]
theorem levels_len (s : ByteArray) : (levels s).length ≤ s.size + 1 := lvs_most s s.size 0 0
theorem levels_size (s t : ByteArray) (h : t ∈ levels s) : t.size ≤ s.size := lvs_size s s.size 0 0 t h

/-- Levels, as a row. -/
theorem tlevels_row (s : ByteArray) (hs : s.size ≤ 1000000) (w : World) : Calls Tryz.prog 105 #[.string s] w fun e w' => ∃ v, e = .returned v ∧ Row w' v (levels s) ∧ Below w.heap.size w w' := by
  refine (tlevels_any s hs w).mono ?_
  rintro e w' ⟨v, rfl, ho, hb⟩
  exact ⟨v, rfl, row_of ho, hb⟩
def fcode (s : ByteArray) : Int := rfc s
theorem ct_zero {s : ByteArray} (hc : ct s = 0) : s.size ≤ 65535 := by
  unfold ct at hc
  by_cases h0 : s.size = 0
  · omega
  · cases h : txt s with
    | true => exact txt_size h
    | false => simp [h0, h] at hc
set_option maxRecDepth 100000 in
set_option maxHeartbeats 1000000 in
theorem fcheck_any (s : ByteArray) (w : World) : Calls Tryz.prog 83 #[.string s] w fun e w' => e = .returned (.int .i64 (fcode s)) ∧ Below w.heap.size w w' := by
  by_cases hc : ct s = 0
  · have hs := ct_zero hc
    have HS : Hid (s.size ≤ 65535) := hs
    obtain ⟨x, hx⟩ : ∃ x, x = lvAny (levels s) := ⟨_, rfl⟩
    have hr : fcode s = if x then 52 else 0 := by simp [fcode, rfc, hc, hx]
    have HX : Hid (x = lvAny (levels s)) := hx
    rw [hr]
    clear hr hx hs
    cases x with
    | true =>
      go_enter Tryz.func83, Tryz.ntmps83
      go_wp2_with (go_at_call 103; refine (checkText_any s _).mono ?_; rintro e w1 ⟨rfl, hb⟩; have B1 : Hid (Below w.heap.size w w1) := hb; clear hb; rw [hc])
      go_must (go_at_call 105)
      refine (tlevels_row s (by have := HS.out; omega) _).mono ?_
      rintro e w2 ⟨v, rfl, hr, hb⟩
      have R2 : Hid (Row w2 v (levels s)) := hr
      have B2 : Hid (Below w.heap.size w w2) := B1.out.trans (hb.mono B1.out.size)
      clear hb hr
      go_wp2_with fail
      go_must (go_at_call 104)
      refine (misplaced_any (levels s) v _ R2.out (by have := levels_len s; have := HS.out; omega) (fun t ht => by have := levels_size s t ht; have := HS.out; omega)).mono ?_
      rintro e w3 ⟨rfl, hb⟩
      have B3 : Hid (Below w.heap.size w w3) := B2.out.trans (hb.mono B2.out.size)
      clear hb
      rw [← HX.out]
      go_wp2_with fail
      go_ret
      exact ⟨rfl, B3.out⟩
    | false =>
      go_enter Tryz.func83, Tryz.ntmps83
      go_wp2_with (go_at_call 103; refine (checkText_any s _).mono ?_; rintro e w1 ⟨rfl, hb⟩; have B1 : Hid (Below w.heap.size w w1) := hb; clear hb; rw [hc])
      go_must (go_at_call 105)
      refine (tlevels_row s (by have := HS.out; omega) _).mono ?_
      rintro e w2 ⟨v, rfl, hr, hb⟩
      have R2 : Hid (Row w2 v (levels s)) := hr
      have B2 : Hid (Below w.heap.size w w2) := B1.out.trans (hb.mono B1.out.size)
      clear hb hr
      go_wp2_with fail
      go_must (go_at_call 104)
      refine (misplaced_any (levels s) v _ R2.out (by have := levels_len s; have := HS.out; omega) (fun t ht => by have := levels_size s t ht; have := HS.out; omega)).mono ?_
      rintro e w3 ⟨rfl, hb⟩
      have B3 : Hid (Below w.heap.size w w3) := B2.out.trans (hb.mono B2.out.size)
      clear hb
      rw [← HX.out]
      go_wp2_with fail
      go_ret
      exact ⟨rfl, B3.out⟩
  · have hc' : (ct s != 0) = true := by simpa using hc
    rw [show fcode s = ct s by simp [fcode, rfc, hc]]
    go_enter Tryz.func83, Tryz.ntmps83
    go_wp2_with (go_at_call 103; refine (checkText_any s _).mono ?_; rintro e w1 ⟨rfl, hb⟩; have B1 : Hid (Below w.heap.size w w1) := hb; clear hb)
    go_ret
    exact ⟨rfl, B1.out⟩
end Go.Proofs.YtmihpmmkkklpfaaGreatDoor.Tp
