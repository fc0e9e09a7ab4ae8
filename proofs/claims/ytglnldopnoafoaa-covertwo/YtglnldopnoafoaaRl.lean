import Derived.Test.YtglnldopnoafoaaRk
import Derived.Test.YtglnldopnoafoaaRc
namespace Go.Proofs.Ytglnldopnoafoaa
open Go Go.RowKit
set_option linter.unusedSimpArgs false
set_option linter.unusedVariables false

theorem lvs_size (s : ByteArray) : ∀ (b f i : Nat) (t : ByteArray), t ∈ lvs s b f i → t.size ≤ s.size
  | 0, f, i, t, h => by
    simp only [lvs, List.mem_singleton] at h
    subst h
    simp [ByteArray.size_extract]
  | b + 1, f, i, t, h => by
    unfold lvs at h
    split at h
    · rename_i hi
      split at h
      · rcases List.mem_cons.1 h with h | h
        · subst h; simp [ByteArray.size_extract]; omega
        · exact lvs_size s b _ _ t h
      · exact lvs_size s b _ _ t h
    · simp only [List.mem_singleton] at h
      subst h
      simp [ByteArray.size_extract]
theorem lvs_some (s : ByteArray) : ∀ (b f i : Nat), 1 ≤ (lvs s b f i).length
  | 0, f, i => by simp [lvs]
  | b + 1, f, i => by
    unfold lvs
    split
    · split
      · simp
      · exact lvs_some s b _ _
    · simp
theorem lvs_most (s : ByteArray) : ∀ (b f i : Nat), (lvs s b f i).length ≤ b + 1
  | 0, f, i => by simp [lvs]
  | b + 1, f, i => by
    unfold lvs
    split
    · split
      · have := lvs_most s b (i + 1) (i + 1); simp; omega
      · have := lvs_most s b f (i + 1); omega
    · simp
theorem hash_list : (⟨#[35]⟩ : ByteArray).toList = [35] := by rw [Lib.toList_data]
def isHash (t : ByteArray) : Bool := t.toList == (⟨#[35]⟩ : ByteArray).toList
/-- Does a sign stand in a level where none may? -/
def lvX (t : ByteArray) (more : Bool) : Bool := (hasS t && decide (1 < t.size)) || (isHash t && more)
def lvAny : List ByteArray → Bool
  | [] => false
  | t :: r => lvX t (!r.isEmpty) || lvAny r
def rfc (s : ByteArray) : Int := if ct s = 0 then (if lvAny (levels s) then 52 else 0) else ct s

set_option maxRecDepth 100000 in
set_option maxHeartbeats 4000000 in
theorem rfilter_any (s : ByteArray) (w : World) : Calls Try.prog 21 #[.string s] w fun e w' => e = .returned (.int .i64 (rfc s)) ∧ Below w.heap.size w w' := by
  by_cases h0 : s.size = 0
  · have e : rfc s = 50 := by simp [rfc, ct, h0]
    have h0' : ((s.size : Int) == 0) = true := by rw [h0]; rfl
    rw [e]
    clear e h0
    go_enter Try.func21, Try.ntmps21
    go_wp2
    go_ret
    exact ⟨rfl, Below.refl _ _⟩
  have h0' : ((s.size : Int) == 0) = false := by rw [beq_eq_false_iff_ne]; omega
  cases ht : txt s with
  | false =>
    have e : rfc s = 51 := by simp [rfc, ct, h0, ht]
    rw [e]
    clear e h0
    go_enter Try.func21, Try.ntmps21
    go_wp2_with (go_at_call 49; refine (rtext_any s _).mono ?_; rintro e w' ⟨rfl, hee⟩; obtain rfl := hee.symm; clear hee; rw [ht])
    go_ret
    exact ⟨rfl, Below.refl _ _⟩
  | true =>
    have HS : Hid (s.size ≤ 65535) := txt_size ht
    obtain ⟨x, hx⟩ : ∃ x, x = rfc s := ⟨_, rfl⟩
    rw [← hx]
    have HX : Hid (x = if lvAny (levels s) then 52 else 0) := by show _ = _; rw [hx]; simp [rfc, ct, h0, ht]
    clear hx h0
    go_enter Try.func21, Try.ntmps21
    go_wp2_with (first | (go_at_call 49; refine (rtext_any s _).mono ?_; rintro e w' ⟨rfl, hee⟩; obtain rfl := hee.symm; clear hee; rw [ht]) | fail)
    go_must (go_at_call 29)
    refine (levels_any s (by have := HS.out; omega) w).mono ?_
    rintro e w1 ⟨v, rfl, ho, hb⟩
    have B1 : Hid (Below w.heap.size w w1) := hb
    have hl1 := lvs_some s s.size 0 0
    have hl2 := lvs_most s s.size 0 0
    obtain ⟨g, cap, hv⟩ : ∃ g cap, v = .slice (some ⟨g, 0, none⟩) (levels s).length cap := by
      rcases ho.2 with h | ⟨g, cap, cur, h, _⟩
      · exact absurd h.2 (by unfold levels; omega)
      · exact ⟨g, cap, h⟩
    subst hv
    have HCap : Hid ((levels s).length ≤ cap) := by
      rcases ho.2 with h | ⟨g', cap', cur, h, _, _, hc, _⟩
      · exact absurd h.2 (by unfold levels; omega)
      · cases h; exact hc
    have HCell : Hid (∀ k, (h : k < (levels s).length) → w1.cell? ⟨g, k, none⟩ = some (.string ((levels s)[k]'h))) := fun k h => by
      rw [ho.cellAt k (by omega)]; simp [h]
    have HSz : Hid (∀ k, (h : k < (levels s).length) → ((levels s)[k]'h).size ≤ 1000000) := fun k h => by
      have h1 := lvs_size s s.size 0 0 _ (List.getElem_mem h); have := HS.out; omega
    have HN : Hid ((levels s).length ≤ 65536) := by show _ ≤ _; unfold levels; have := HS.out; omega
    obtain ⟨l, hl⟩ : ∃ l, l = levels s := ⟨_, rfl⟩
    rw [← hl] at HCap HCell HSz HN HX ⊢
    clear ho hb hl1 hl2 hl ht
    go_wp2_with fail
    have HT : Hid (lvAny l = lvAny (l.drop 0)) := rfl
    go_loopg [4] l.length (fun gg s4 wx => wx = w1 ∧ ∃ k : Nat, k ≤ l.length ∧ gg = l.length - k ∧ s4 = .int .i64 k ∧ Hid (lvAny l = lvAny (l.drop k)))
    case atStart => exact ⟨rfl, 0, Nat.zero_le _, rfl, rfl, HT⟩
    case round =>
      obtain ⟨hw0, k, hk, rfl, rfl, HD⟩ := hrel
      obtain rfl := hw0.symm
      clear hw0
      by_cases hlt : k < l.length
      · have hlt' : (k : Int) < l.length := by omega
        obtain ⟨t, htt⟩ : ∃ t, t = l[k]'hlt := ⟨_, rfl⟩
        have c1 := HCell.out k hlt
        rw [← htt] at c1
        have HZ : Hid (t.size ≤ 1000000) := by show _ ≤ _; rw [htt]; exact HSz.out k hlt
        have hcap := HCap.out
        have hw : IntKind.i64.wrap ((k : Int) + 1) = (k : Int) + 1 := by rw [IntKind.wrap_i64]; have := HN.out; omega
        have HE : Hid (lvAny (l.drop k) = (lvX t (decide (k + 1 < l.length)) || lvAny (l.drop (k + 1)))) := by
          show _ = _
          rw [List.drop_eq_getElem_cons hlt, ← htt]
          simp only [lvAny]
          congr 2
          by_cases hm : k + 1 < l.length
          · rw [decide_eq_true hm]; cases hd : List.drop (k + 1) l with
            | nil => have := congrArg List.length hd; simp at this; omega
            | cons a r => rfl
          · rw [decide_eq_false hm, List.drop_eq_nil_of_le (by omega)]; rfl
        clear htt
        have HBad : Hid (lvX t (decide (k + 1 < l.length)) = true → x = 52) := fun h => by rw [HX.out, HD.out, HE.out, h]; rfl
        have HOk : Hid (lvX t (decide (k + 1 < l.length)) = false → lvAny l = lvAny (l.drop (k + 1))) := fun h => by rw [HD.out, HE.out, h]; rfl
        clear HE
        by_cases hm : k + 1 < l.length
        · have hm' : (k : Int) + 1 < l.length := by omega
          cases hg : hasS t
          case false =>
            cases hh : isHash t
            case false =>
              have hq : (t.toList == (⟨#[35]⟩ : ByteArray).toList) = false := hh
              have hq2 : (t.toList == [35]) = false := by rw [← hash_list]; exact hh
              have HD2 : Hid (lvAny l = lvAny (l.drop (k + 1))) := HOk.out (by simp [lvX, hg, hh])
              go_wp2_with (go_at_call 50; refine (sign_any t HZ.out _).mono ?_; rintro e w' ⟨rfl, hee⟩; obtain rfl := hee.symm; clear hee; rw [hg])
              go_roundg (l.length - (k + 1))
              case measure => omega
              case rel => exact ⟨rfl, k + 1, by omega, by omega, by first | rfl | simp, HD2⟩
            have hq : (t.toList == (⟨#[35]⟩ : ByteArray).toList) = true := hh
            have hq2 : (t.toList == [35]) = true := by rw [← hash_list]; exact hh
            have HR : Hid (x = 52) := HBad.out (by simp [lvX, hg, hh, hm])
            go_wp2_with (go_at_call 50; refine (sign_any t HZ.out _).mono ?_; rintro e w' ⟨rfl, hee⟩; obtain rfl := hee.symm; clear hee; rw [hg])
            go_ret
            exact ⟨by rw [HR.out]; rfl, B1.out⟩
          by_cases h2 : 1 < t.size
          · have h2' : (1 : Int) < t.size := by omega
            have HR : Hid (x = 52) := HBad.out (by simp [lvX, hg, h2])
            go_wp2_with (go_at_call 50; refine (sign_any t HZ.out _).mono ?_; rintro e w' ⟨rfl, hee⟩; obtain rfl := hee.symm; clear hee; rw [hg])
            go_ret
            exact ⟨by rw [HR.out]; rfl, B1.out⟩
          have h2' : ¬ (1 : Int) < t.size := by omega
          cases hh : isHash t
          case false =>
            have hq : (t.toList == (⟨#[35]⟩ : ByteArray).toList) = false := hh
            have hq2 : (t.toList == [35]) = false := by rw [← hash_list]; exact hh
            have HD2 : Hid (lvAny l = lvAny (l.drop (k + 1))) := HOk.out (by simp [lvX, hg, h2, hh])
            go_wp2_with (go_at_call 50; refine (sign_any t HZ.out _).mono ?_; rintro e w' ⟨rfl, hee⟩; obtain rfl := hee.symm; clear hee; rw [hg])
            go_roundg (l.length - (k + 1))
            case measure => omega
            case rel => exact ⟨rfl, k + 1, by omega, by omega, by first | rfl | simp, HD2⟩
          have hq : (t.toList == (⟨#[35]⟩ : ByteArray).toList) = true := hh
          have hq2 : (t.toList == [35]) = true := by rw [← hash_list]; exact hh
          have HR : Hid (x = 52) := HBad.out (by simp [lvX, hg, h2, hh, hm])
          go_wp2_with (go_at_call 50; refine (sign_any t HZ.out _).mono ?_; rintro e w' ⟨rfl, hee⟩; obtain rfl := hee.symm; clear hee; rw [hg])
          go_ret
          exact ⟨by rw [HR.out]; rfl, B1.out⟩
        · have hm' : ¬ (k : Int) + 1 < l.length := by omega
          cases hg : hasS t
          case false =>
            cases hh : isHash t
            case false =>
              have hq : (t.toList == (⟨#[35]⟩ : ByteArray).toList) = false := hh
              have hq2 : (t.toList == [35]) = false := by rw [← hash_list]; exact hh
              have HD2 : Hid (lvAny l = lvAny (l.drop (k + 1))) := HOk.out (by simp [lvX, hg, hh])
              go_wp2_with (go_at_call 50; refine (sign_any t HZ.out _).mono ?_; rintro e w' ⟨rfl, hee⟩; obtain rfl := hee.symm; clear hee; rw [hg])
              go_roundg (l.length - (k + 1))
              case measure => omega
              case rel => exact ⟨rfl, k + 1, by omega, by omega, by first | rfl | simp, HD2⟩
            have hq : (t.toList == (⟨#[35]⟩ : ByteArray).toList) = true := hh
            have hq2 : (t.toList == [35]) = true := by rw [← hash_list]; exact hh
            have HD2 : Hid (lvAny l = lvAny (l.drop (k + 1))) := HOk.out (by simp [lvX, hg, hh, hm])
            go_wp2_with (go_at_call 50; refine (sign_any t HZ.out _).mono ?_; rintro e w' ⟨rfl, hee⟩; obtain rfl := hee.symm; clear hee; rw [hg])
            go_roundg (l.length - (k + 1))
            case measure => omega
            case rel => exact ⟨rfl, k + 1, by omega, by omega, by first | rfl | simp, HD2⟩
          by_cases h2 : 1 < t.size
          · have h2' : (1 : Int) < t.size := by omega
            have HR : Hid (x = 52) := HBad.out (by simp [lvX, hg, h2])
            go_wp2_with (go_at_call 50; refine (sign_any t HZ.out _).mono ?_; rintro e w' ⟨rfl, hee⟩; obtain rfl := hee.symm; clear hee; rw [hg])
            go_ret
            exact ⟨by rw [HR.out]; rfl, B1.out⟩
          have h2' : ¬ (1 : Int) < t.size := by omega
          cases hh : isHash t
          case false =>
            have hq : (t.toList == (⟨#[35]⟩ : ByteArray).toList) = false := hh
            have hq2 : (t.toList == [35]) = false := by rw [← hash_list]; exact hh
            have HD2 : Hid (lvAny l = lvAny (l.drop (k + 1))) := HOk.out (by simp [lvX, hg, h2, hh])
            go_wp2_with (go_at_call 50; refine (sign_any t HZ.out _).mono ?_; rintro e w' ⟨rfl, hee⟩; obtain rfl := hee.symm; clear hee; rw [hg])
            go_roundg (l.length - (k + 1))
            case measure => omega
            case rel => exact ⟨rfl, k + 1, by omega, by omega, by first | rfl | simp, HD2⟩
          have hq : (t.toList == (⟨#[35]⟩ : ByteArray).toList) = true := hh
          have hq2 : (t.toList == [35]) = true := by rw [← hash_list]; exact hh
          have HD2 : Hid (lvAny l = lvAny (l.drop (k + 1))) := HOk.out (by simp [lvX, hg, h2, hh, hm])
          go_wp2_with (go_at_call 50; refine (sign_any t HZ.out _).mono ?_; rintro e w' ⟨rfl, hee⟩; obtain rfl := hee.symm; clear hee; rw [hg])
          go_roundg (l.length - (k + 1))
          case measure => omega
          case rel => exact ⟨rfl, k + 1, by omega, by omega, by first | rfl | simp, HD2⟩
      · obtain rfl : k = l.length := by omega
        have hlt' : ¬ (l.length : Int) < l.length := by omega
        have HR : Hid (x = 0) := by show _ = _; rw [HX.out, HD.out, List.drop_length]; rfl
        go_wp2
        go_ret
        exact ⟨by rw [HR.out]; rfl, B1.out⟩
end Go.Proofs.Ytglnldopnoafoaa
