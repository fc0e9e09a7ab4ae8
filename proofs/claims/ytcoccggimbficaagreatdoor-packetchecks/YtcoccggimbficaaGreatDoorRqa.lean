import Derived.Test.YtcoccggimbficaaGreatDoorRi
import Derived.Test.YtcoccggimbficaaGreatDoorRc
import Derived.Laws.AppendOwn
import Derived.Laws.OwnMore
import Derived.Deep.LoopGhost
import Derived.OwnWalk
import Derived.Test.YtcoccggimbficaaGreatDoorRe
namespace Go.Proofs.YtcoccggimbficaaGreatDoor
open Go Go.RowKit Go.Sort
set_option linter.unusedSimpArgs false
set_option linter.unusedVariables false

/-! ### Of packets that have no field that their kind hasn't, the document tells the same -/
theorem sumN_zero (f : Nat → Nat) {n : Nat} (h : n = 0) : sumN f n = 0 := by subst h; rfl
theorem sz_rsz {p : Pk} {c : Cn} (h : Own p) : sz p c = rsz p c := by
  unfold sz rsz rb
  by_cases k1 : p.kind = 1
  · have : nid p = 0 := by simp [nid, hasID, k1]
    rw [if_pos k1, if_pos k1, this]; rfl
  rw [if_neg k1, if_neg k1]
  by_cases k2 : p.kind = 2
  · have : nid p = 0 := by simp [nid, hasID, k2]
    rw [if_pos k2, if_pos k2, this]
  rw [if_neg k2, if_neg k2]
  by_cases k3 : p.kind = 3
  · rw [if_pos k3, if_pos k3]; omega
  rw [if_neg k3, if_neg k3]
  by_cases k8 : p.kind = 8
  · rw [if_pos k8, sumN_zero (fun i => 2 + (c.fs i).size) (h.filters (by omega)), h.codes (by omega)]; omega
  rw [if_neg k8, sumN_zero (fun i => 3 + (c.af i).size) (h.asks k8)]
  by_cases k9 : p.kind = 9
  · rw [if_pos k9, sumN_zero (fun i => 2 + (c.fs i).size) (h.filters (by omega))]; omega
  rw [if_neg k9, h.codes k9]
  by_cases k10 : p.kind = 10
  · rw [if_pos k10]; omega
  rw [if_neg k10, sumN_zero (fun i => 2 + (c.fs i).size) (h.filters k10)]; omega
theorem topb_ne (s : ByteArray) : topb s = !(tcode s != 0) := by
  unfold topb
  cases h : (tcode s == 0) <;> simp_all
theorem tps_rtps {p : Pk} (h : Own p) : tps TT p = rtps p := by
  have h1 := h.hasWill
  unfold tps rtps
  show (!(p.hasWill && !topb p.wT) && (decide (p.kind ≠ 3) || topb p.mT)) = _
  rw [topb_ne, topb_ne]
  by_cases k1 : p.kind = 1
  · simp [k1]
  · rw [h1 k1]
    by_cases k3 : p.kind = 3 <;> simp [k1, k3]
theorem isQ_zero {q : Int} (h : q = 0) : isQ q = true := by subst h; rfl
theorem qls_rqls {p : Pk} {c : Cn} (h : Own p) : qls p c = rqls p c := by
  unfold qls rqls
  have e : (isQ p.wQ && isQ p.mQ) = !qA p := by
    unfold qA
    by_cases k1 : p.kind = 1
    · have hm : isQ p.mQ = true := isQ_zero (h.msg (by omega)).2.1
      cases hw : p.hasWill
      · have hq : isQ p.wQ = true := isQ_zero (h.will (by simp [hw])).2.1
        simp [k1, hw, hm, hq]
      · cases hq : isQ p.wQ <;> simp [k1, hw, hm, hq]
    · have hq : isQ p.wQ = true := isQ_zero (h.will (fun hh => k1 hh.1)).2.1
      by_cases k3 : p.kind = 3
      · cases hm : isQ p.mQ <;> simp [k1, k3, hq, hm]
      · have hm : isQ p.mQ = true := isQ_zero (h.msg k3).2.1
        simp [k1, k3, hq, hm]
  rw [e]
end Go.Proofs.YtcoccggimbficaaGreatDoor
namespace Go.Proofs.YtcoccggimbficaaGreatDoor
open Go Go.RowKit
set_option linter.unusedSimpArgs false
set_option linter.unusedVariables false
set_option maxRecDepth 100000 in
set_option maxHeartbeats 2000000 in
theorem levels_any (s : ByteArray) (hs : s.size ≤ 65535) (w : World) : Calls Tryz.prog 187 #[.string s] w fun e w' => ∃ v, e = .returned v ∧ w'.ownsRow w.heap.size 9 1 v (levels s).length ((levels s).map Value.string) ∧ Below w.heap.size w w' := by
  obtain ⟨i0, hi, hz0, hz1, hz2⟩ : ∃ i0, Tryz.prog.info? 9 = some i0 ∧ i0.zero = some (.string ⟨#[]⟩) ∧ i0.size = 1 ∧ i0.bytes = 16 := ⟨_, rfl, rfl, rfl, rfl⟩
  have HS : Hid (s.size ≤ 65535) := hs
  have HT : Hid (levels s = [] ++ lvs s s.size 0 0) := rfl
  clear hs
  go_enter Tryz.func187, Tryz.ntmps187
  go_wp2_with fail
  go_loopg [3, 4, 5] s.size (fun g s3 s4 s5 wx => ∃ (f i b : Nat) (xs : List ByteArray), f ≤ i ∧ i ≤ s.size ∧ g = s.size - i ∧ s4 = .int .i64 f ∧ s5 = .int .i64 i ∧ Hid (wx.ownsRow w.heap.size 9 1 s3 xs.length (xs.map Value.string)) ∧ Hid (Below w.heap.size w wx) ∧ Hid (levels s = xs ++ lvs s b f i) ∧ Hid (s.size ≤ i + b) ∧ Hid (xs.length ≤ i))
  case atStart => exact ⟨0, 0, s.size, [], Nat.le_refl _, Nat.zero_le _, rfl, rfl, rfl, World.ownsRow_nil _ _ _ _, Below.refl _ _, HT, by show _ ≤ _; omega, Nat.le_refl _⟩
  case round =>
    obtain ⟨f, i, b, xs, hfi, hisz, rfl, rfl, rfl, HO, HB, HL, HF, HN⟩ := hrel
    by_cases hlt : i < s.size
    · have hlt' : (i : Int) < s.size := by omega
      have HA : Hid (atB s i = (s[i]'hlt).toNat) := atB_in s i hlt
      have hw : IntKind.i64.wrap ((i : Int) + 1) = (i : Int) + 1 := by rw [IntKind.wrap_i64]; have := HS.out; omega
      by_cases h47 : (s[i]'hlt).toNat = 47
      · have h47' : (((s[i]'hlt).toNat : Int) == 47) = true := by simp [h47]
        have HC : Hid (atB s i = 47) := by show _ = _; rw [HA.out]; exact h47
        have hfi' : (f : Int) ≤ i := by omega
        have hisz' : (i : Int) ≤ s.size := by omega
        clear h47
        go_wp2_with (at_builtin; refine wpList_append_own _ rfl (.tmp 16) (.tmp 21) 27 rfl w.heap.size 9 i0 (.string ⟨#[]⟩) 1 16 Tryz.underlying27 hi hz0 hz1 hz2 rfl (by decide) _ _ _ rfl (HO.out.alloc _) ⟨_, 0, none⟩ 1 1 [.string (s.extract f i)] rfl rfl ?d1 ?d2 ?d3 ?d4 ?d5 ?_)
        case d1 => exact cell_one_new _ _ _
        case d2 => intro u hu; simp at hu; subst hu; rfl
        case d3 => have := HN.out; have := HS.out; unfold maxLen; omega
        case d4 => have := HN.out; have := HS.out; omega
        case d5 => have := HB.out.size; simp; omega
        intro v2 w2 hown2 hgrow2 hnil2
        have hb2 := (HB.out.alloc HB.out.size _).grown hgrow2 (by have := HB.out.size; simp; omega) (by intro q hq; exact (HO.out.lt _ hq).1)
        obtain ⟨b', e1, e2⟩ := lvs_cut s b f i hlt HF.out HC.out
        have HO2 : Hid (w2.ownsRow w.heap.size 9 1 v2 (xs ++ [s.extract f i]).length ((xs ++ [s.extract f i]).map Value.string)) := by show World.ownsRow _ _ _ _ _ _ _; simpa using hown2
        have HB2 : Hid (Below w.heap.size w w2) := hb2
        have HL2 : Hid (levels s = (xs ++ [s.extract f i]) ++ lvs s b' (i + 1) (i + 1)) := by show _ = _; rw [HL.out, e1]; simp
        have HF2 : Hid (s.size ≤ i + 1 + b') := e2
        have HN2 : Hid ((xs ++ [s.extract f i]).length ≤ i + 1) := by show _ ≤ _; have := HN.out; simp; omega
        clear hown2 hgrow2 hnil2 hb2 e1 e2
        go_wp2
        go_roundg (s.size - (i + 1))
        case measure => omega
        case rel => exact ⟨i + 1, i + 1, b', xs ++ [s.extract f i], Nat.le_refl _, by omega, by omega, by first | rfl | simp, by first | rfl | simp, HO2, HB2, HL2, HF2, HN2⟩
      · have h47' : (((s[i]'hlt).toNat : Int) == 47) = false := by simp; omega
        obtain ⟨b', e1, e2⟩ := lvs_on s b f i hlt HF.out (by rw [HA.out]; exact h47)
        have HL2 : Hid (levels s = xs ++ lvs s b' f (i + 1)) := by show _ = _; rw [HL.out, e1]
        have HF2 : Hid (s.size ≤ i + 1 + b') := e2
        have HN2 : Hid (xs.length ≤ i + 1) := Nat.le_succ_of_le HN.out
        clear h47 e1 e2
        go_wp2
        go_roundg (s.size - (i + 1))
        case measure => omega
        case rel => exact ⟨f, i + 1, b', xs, by omega, by omega, by omega, rfl, by first | rfl | simp, HO, HB, HL2, HF2, HN2⟩
    · obtain rfl : i = s.size := by omega
      have hlt' : ¬ (s.size : Int) < s.size := by omega
      have hfi' : (f : Int) ≤ s.size := by omega
      have HE : Hid (levels s = xs ++ [s.extract f s.size]) := by show _ = _; rw [HL.out, lvs_end s b f _ hlt]
      go_wp2_with (at_builtin; refine wpList_append_own _ rfl (.tmp 25) (.tmp 29) 27 rfl w.heap.size 9 i0 (.string ⟨#[]⟩) 1 16 Tryz.underlying27 hi hz0 hz1 hz2 rfl (by decide) _ _ _ rfl (HO.out.alloc _) ⟨_, 0, none⟩ 1 1 [.string (s.extract f s.size)] rfl rfl (cell_one_new _ _ _) ?x2 ?x3 ?x4 ?x5 ?_)
      any_goals first | rfl | (intro u hu; simp at hu; subst hu; rfl; done) | (have := HN.out; have := HS.out; unfold maxLen; omega; done) | (have := HN.out; have := HS.out; omega; done) | (have := HB.out.size; simp; omega; done)
      intro v2 w2 hown2 hgrow2 hnil2
      have hb2 := (HB.out.alloc HB.out.size _).grown hgrow2 (by have := HB.out.size; simp; omega) (by intro q hq; exact (HO.out.lt _ hq).1)
      have HO2 : Hid (w2.ownsRow w.heap.size 9 1 v2 (levels s).length ((levels s).map Value.string)) := by show World.ownsRow _ _ _ _ _ _ _; rw [HE.out]; simpa using hown2
      have HB2 : Hid (Below w.heap.size w w2) := hb2
      clear hown2 hgrow2 hnil2 hb2
      go_wp2
      go_ret
      exact ⟨v2, rfl, HO2.out, HB2.out⟩
end Go.Proofs.YtcoccggimbficaaGreatDoor
namespace Go.Proofs.YtcoccggimbficaaGreatDoor
open Go Go.RowKit
set_option linter.unusedSimpArgs false
set_option linter.unusedVariables false
set_option maxRecDepth 100000 in
set_option maxHeartbeats 4000000 in
theorem rfilter_any (s : ByteArray) (w : World) : Calls Tryz.prog 141 #[.string s] w fun e w' => e = .returned (.int .i64 (rfc s)) ∧ Below w.heap.size w w' := by
  by_cases h0 : s.size = 0
  · have e : rfc s = 50 := by simp [rfc, ct, h0]
    have h0' : ((s.size : Int) == 0) = true := by rw [h0]; rfl
    rw [e]
    clear e h0
    go_enter Tryz.func141, Tryz.ntmps141
    go_wp2
    go_ret
    exact ⟨rfl, Below.refl _ _⟩
  have h0' : ((s.size : Int) == 0) = false := by rw [beq_eq_false_iff_ne]; omega
  cases ht : txt s with
  | false =>
    have e : rfc s = 51 := by simp [rfc, ct, h0, ht]
    rw [e]
    clear e h0
    go_enter Tryz.func141, Tryz.ntmps141
    go_wp2_with (go_at_call 96; refine (rtext_any s _).mono ?_; rintro e w' ⟨rfl, hee⟩; obtain rfl := hee.symm; clear hee; rw [ht])
    go_ret
    exact ⟨rfl, Below.refl _ _⟩
  | true =>
    have HS : Hid (s.size ≤ 65535) := txt_size ht
    obtain ⟨x, hx⟩ : ∃ x, x = rfc s := ⟨_, rfl⟩
    rw [← hx]
    have HX : Hid (x = if lvAny (levels s) then 52 else 0) := by show _ = _; rw [hx]; simp [rfc, ct, h0, ht]
    clear hx h0
    go_enter Tryz.func141, Tryz.ntmps141
    go_wp2_with (first | (go_at_call 96; refine (rtext_any s _).mono ?_; rintro e w' ⟨rfl, hee⟩; obtain rfl := hee.symm; clear hee; rw [ht]) | fail)
    go_must (go_at_call 187)
    refine (levels_any s HS.out w).mono ?_
    rintro e w1 ⟨v, rfl, ho, hb⟩
    have B1 : Hid (Below w.heap.size w w1) := hb
    have hl1 := lvs_some s s.size 0 0
    have hl2 := lvs_most s s.size 0 0
    obtain ⟨g, cap, hv⟩ : ∃ g cap, v = .slice (some ⟨g, 0, none⟩) (levels s).length cap := by
      rcases ho.2 with h | ⟨g, cap, cur, h, _⟩
      · exact absurd h.2 (by unfold levels; omega)
      · exact ⟨g, cap, h⟩
    subst hv
    have HCap : Hid ((levels s).length ≤ cap) := by
      rcases ho.2 with h | ⟨g', cap', cur, h, _, _, hc, _⟩
      · exact absurd h.2 (by unfold levels; omega)
      · cases h; exact hc
    have HCell : Hid (∀ k, (h : k < (levels s).length) → w1.cell? ⟨g, k, none⟩ = some (.string ((levels s)[k]'h))) := fun k h => by
      rw [ho.cellAt k (by omega)]; simp [h]
    have HSz : Hid (∀ k, (h : k < (levels s).length) → ((levels s)[k]'h).size ≤ 1000000) := fun k h => by
      have h1 := lvs_size s s.size 0 0 _ (List.getElem_mem h); have := HS.out; omega
    have HN : Hid ((levels s).length ≤ 65536) := by show _ ≤ _; unfold levels; have := HS.out; omega
    obtain ⟨l, hl⟩ : ∃ l, l = levels s := ⟨_, rfl⟩
    rw [← hl] at HCap HCell HSz HN HX ⊢
    clear ho hb hl1 hl2 hl ht
    go_wp2_with fail
    have HT : Hid (lvAny l = lvAny (l.drop 0)) := rfl
    go_loopg [4] l.length (fun gg s4 wx => wx = w1 ∧ ∃ k : Nat, k ≤ l.length ∧ gg = l.length - k ∧ s4 = .int .i64 k ∧ Hid (lvAny l = lvAny (l.drop k)))
    case atStart => exact ⟨rfl, 0, Nat.zero_le _, rfl, rfl, HT⟩
    case round =>
      obtain ⟨hw0, k, hk, rfl, rfl, HD⟩ := hrel
      obtain rfl := hw0.symm
      clear hw0
      by_cases hlt : k < l.length
      · have hlt' : (k : Int) < l.length := by omega
        obtain ⟨t, htt⟩ : ∃ t, t = l[k]'hlt := ⟨_, rfl⟩
        have c1 := HCell.out k hlt
        rw [← htt] at c1
        have HZ : Hid (t.size ≤ 1000000) := by show _ ≤ _; rw [htt]; exact HSz.out k hlt
        have hcap := HCap.out
        have hw : IntKind.i64.wrap ((k : Int) + 1) = (k : Int) + 1 := by rw [IntKind.wrap_i64]; have := HN.out; omega
        have HE : Hid (lvAny (l.drop k) = (lvX t (decide (k + 1 < l.length)) || lvAny (l.drop (k + 1)))) := by
          show _ = _
          rw [List.drop_eq_getElem_cons hlt, ← htt]
          simp only [lvAny]
          congr 2
          by_cases hm : k + 1 < l.length
          · rw [decide_eq_true hm]; cases hd : List.drop (k + 1) l with
            | nil => have := congrArg List.length hd; simp at this; omega
            | cons a r => rfl
          · rw [decide_eq_false hm, List.drop_eq_nil_of_le (by omega)]; rfl
        clear htt
        have HBad : Hid (lvX t (decide (k + 1 < l.length)) = true → x = 52) := fun h => by rw [HX.out, HD.out, HE.out, h]; rfl
        have HOk : Hid (lvX t (decide (k + 1 < l.length)) = false → lvAny l = lvAny (l.drop (k + 1))) := fun h => by rw [HD.out, HE.out, h]; rfl
        clear HE
        by_cases hm : k + 1 < l.length
        · have hm' : (k : Int) + 1 < l.length := by omega
          cases hg : hasS t
          case false =>
            cases hh : isHash t
            case false =>
              have hq : (t.toList == (⟨#[35]⟩ : ByteArray).toList) = false := hh
              have hq2 : (t.toList == [35]) = false := by rw [← hash_list]; exact hh
              have HD2 : Hid (lvAny l = lvAny (l.drop (k + 1))) := HOk.out (by simp [lvX, hg, hh])
              go_wp2_with (go_at_call 144; refine (sign_any t HZ.out _).mono ?_; rintro e w' ⟨rfl, hee⟩; obtain rfl := hee.symm; clear hee; rw [hg])
              go_roundg (l.length - (k + 1))
              case measure => omega
              case rel => exact ⟨rfl, k + 1, by omega, by omega, by first | rfl | simp, HD2⟩
            have hq : (t.toList == (⟨#[35]⟩ : ByteArray).toList) = true := hh
            have hq2 : (t.toList == [35]) = true := by rw [← hash_list]; exact hh
            have HR : Hid (x = 52) := HBad.out (by simp [lvX, hg, hh, hm])
            go_wp2_with (go_at_call 144; refine (sign_any t HZ.out _).mono ?_; rintro e w' ⟨rfl, hee⟩; obtain rfl := hee.symm; clear hee; rw [hg])
            go_ret
            exact ⟨by rw [HR.out]; rfl, B1.out⟩
          by_cases h2 : 1 < t.size
          · have h2' : (1 : Int) < t.size := by omega
            have HR : Hid (x = 52) := HBad.out (by simp [lvX, hg, h2])
            go_wp2_with (go_at_call 144; refine (sign_any t HZ.out _).mono ?_; rintro e w' ⟨rfl, hee⟩; obtain rfl := hee.symm; clear hee; rw [hg])
            go_ret
            exact ⟨by rw [HR.out]; rfl, B1.out⟩
          have h2' : ¬ (1 : Int) < t.size := by omega
          cases hh : isHash t
          case false =>
            have hq : (t.toList == (⟨#[35]⟩ : ByteArray).toList) = false := hh
            have hq2 : (t.toList == [35]) = false := by rw [← hash_list]; exact hh
            have HD2 : Hid (lvAny l = lvAny (l.drop (k + 1))) := HOk.out (by simp [lvX, hg, h2, hh])
            go_wp2_with (go_at_call 144; refine (sign_any t HZ.out _).mono ?_; rintro e w' ⟨rfl, hee⟩; obtain rfl := hee.symm; clear hee; rw [hg])
            go_roundg (l.length - (k + 1))
            case measure => omega
            case rel => exact ⟨rfl, k + 1, by omega, by omega, by first | rfl | simp, HD2⟩
          have hq : (t.toList == (⟨#[35]⟩ : ByteArray).toList) = true := hh
          have hq2 : (t.toList == [35]) = true := by rw [← hash_list]; exact hh
          have HR : Hid (x = 52) := HBad.out (by simp [lvX, hg, h2, hh, hm])
          go_wp2_with (go_at_call 144; refine (sign_any t HZ.out _).mono ?_; rintro e w' ⟨rfl, hee⟩; obtain rfl := hee.symm; clear hee; rw [hg])
          go_ret
          exact ⟨by rw [HR.out]; rfl, B1.out⟩
        · have hm' : ¬ (k : Int) + 1 < l.length := by omega
          cases hg : hasS t
          case false =>
            cases hh : isHash t
            case false =>
              have hq : (t.toList == (⟨#[35]⟩ : ByteArray).toList) = false := hh
              have hq2 : (t.toList == [35]) = false := by rw [← hash_list]; exact hh
              have HD2 : Hid (lvAny l = lvAny (l.drop (k + 1))) := HOk.out (by simp [lvX, hg, hh])
              go_wp2_with (go_at_call 144; refine (sign_any t HZ.out _).mono ?_; rintro e w' ⟨rfl, hee⟩; obtain rfl := hee.symm; clear hee; rw [hg])
              go_roundg (l.length - (k + 1))
              case measure => omega
              case rel => exact ⟨rfl, k + 1, by omega, by omega, by first | rfl | simp, HD2⟩
            have hq : (t.toList == (⟨#[35]⟩ : ByteArray).toList) = true := hh
            have hq2 : (t.toList == [35]) = true := by rw [← hash_list]; exact hh
            have HD2 : Hid (lvAny l = lvAny (l.drop (k + 1))) := HOk.out (by simp [lvX, hg, hh, hm])
            go_wp2_with (go_at_call 144; refine (sign_any t HZ.out _).mono ?_; rintro e w' ⟨rfl, hee⟩; obtain rfl := hee.symm; clear hee; rw [hg])
            go_roundg (l.length - (k + 1))
            case measure => omega
            case rel => exact ⟨rfl, k + 1, by omega, by omega, by first | rfl | simp, HD2⟩
          by_cases h2 : 1 < t.size
          · have h2' : (1 : Int) < t.size := by omega
            have HR : Hid (x = 52) := HBad.out (by simp [lvX, hg, h2])
            go_wp2_with (go_at_call 144; refine (sign_any t HZ.out _).mono ?_; rintro e w' ⟨rfl, hee⟩; obtain rfl := hee.symm; clear hee; rw [hg])
            go_ret
            exact ⟨by rw [HR.out]; rfl, B1.out⟩
          have h2' : ¬ (1 : Int) < t.size := by omega
          cases hh : isHash t
          case false =>
            have hq : (t.toList == (⟨#[35]⟩ : ByteArray).toList) = false := hh
            have hq2 : (t.toList == [35]) = false := by rw [← hash_list]; exact hh
            have HD2 : Hid (lvAny l = lvAny (l.drop (k + 1))) := HOk.out (by simp [lvX, hg, h2, hh])
            go_wp2_with (go_at_call 144; refine (sign_any t HZ.out _).mono ?_; rintro e w' ⟨rfl, hee⟩; obtain rfl := hee.symm; clear hee; rw [hg])
            go_roundg (l.length - (k + 1))
            case measure => omega
            case rel => exact ⟨rfl, k + 1, by omega, by omega, by first | rfl | simp, HD2⟩
          have hq : (t.toList == (⟨#[35]⟩ : ByteArray).toList) = true := hh
          have hq2 : (t.toList == [35]) = true := by rw [← hash_list]; exact hh
          have HD2 : Hid (lvAny l = lvAny (l.drop (k + 1))) := HOk.out (by simp [lvX, hg, h2, hh, hm])
          go_wp2_with (go_at_call 144; refine (sign_any t HZ.out _).mono ?_; rintro e w' ⟨rfl, hee⟩; obtain rfl := hee.symm; clear hee; rw [hg])
          go_roundg (l.length - (k + 1))
          case measure => omega
          case rel => exact ⟨rfl, k + 1, by omega, by omega, by first | rfl | simp, HD2⟩
      · obtain rfl : k = l.length := by omega
        have hlt' : ¬ (l.length : Int) < l.length := by omega
        have HR : Hid (x = 0) := by show _ = _; rw [HX.out, HD.out, List.drop_length]; rfl
        go_wp2
        go_ret
        exact ⟨by rw [HR.out]; rfl, B1.out⟩
end Go.Proofs.YtcoccggimbficaaGreatDoor
namespace Go.Proofs.YtcoccggimbficaaGreatDoor
open Go Go.RowKit Go.Sort
set_option linter.unusedSimpArgs false
set_option linter.unusedVariables false

/-- What the document's look at filters tells. -/
def rflts (p : Pk) (c : Cn) : Bool := allN p.asks.n (fun i => rfc (c.af i) == 0) && allN p.filters.n (fun i => rfc (c.fs i) == 0)

set_option maxHeartbeats 4000000 in
set_option maxRecDepth 100000 in
theorem rfilters_any (p : Pk) (c : Cn) (w : World) (hin : In w p c) (ha : p.asks.n ≤ 1000000) (hd : p.filters.n ≤ 1000000) : Calls Tryz.prog 98 #[p.v] w fun e w' => e = .returned (.bool (rflts p c)) ∧ Below w.heap.size w w' := by
  obtain ⟨x, hx⟩ : ∃ x, x = rflts p c := ⟨_, rfl⟩
  rw [← hx]
  have HX : Hid (x = rflts p c) := hx
  clear hx
  obtain ⟨P, hP⟩ : ∃ P, P = pkCells p := ⟨_, rfl⟩
  obtain ⟨W, hW⟩ : ∃ W, W = w.alloc (.cells P 29) := ⟨_, rfl⟩
  have b0 : Hid (Below w.heap.size w W) := box_below hW
  have FA : Hid (∀ k v, (pkCells p)[k]? = some v → W.cell? ⟨w.heap.size, k, none⟩ = some v) := fun k v h => by rw [hW]; exact box_cell w P 29 k v (by rw [hP]; exact h)
  rw [show p.v = .agg P by rw [hP]; rfl]
  clear hP
  have HA : Hid (As W p.asks c.af c.aq) := hin.asks.below b0.out
  have HS : Hid (Ss W p.filters c.fs) := hin.filters.below b0.out
  have LA : Hid (p.asks.n ≤ 1000000) := ha
  have LC : Hid (p.filters.n ≤ 1000000) := hd
  have R0 : Hid (Below W.heap.size W W) := Below.refl _ _
  have BW : Hid (∀ w', Below W.heap.size W w' → Below w.heap.size w w') := fun w' hb => b0.out.trans (hb.mono b0.out.size)
  clear hin ha hd
  go_enter Tryz.func98, Tryz.ntmps98
  go_upto_region 1 with fail
  rw [← hW]
  clear hW
  go_wp2_with fail
  go_loopg [3] p.asks.n (fun g s3 wx => ∃ k : Nat, s3 = .int .i64 k ∧ k + g = p.asks.n ∧ Hid (Below W.heap.size W wx) ∧ Hid (∀ j, j < k → (rfc (c.af j) == 0) = true))
  case atStart => exact ⟨0, rfl, by omega, R0, fun j hj => absurd hj (Nat.not_lt_zero _)⟩
  case round =>
    obtain ⟨k, rfl, hkg, B, HD⟩ := hrel
    have c22 := cell_later B.out (FA.out 22 (.slice p.asks.a p.asks.n p.asks.c) rfl)
    by_cases hk : k < p.asks.n
    · have hk' : (k : Int) < p.asks.n := by omega
      obtain ⟨b, off, he, hc⟩ : ∃ b off, p.asks.a = some ⟨b, off, none⟩ ∧ ∀ i, i < p.asks.n → (W.cell? ⟨b, off + i * 2, none⟩ = some (.string (c.af i)) ∧ W.cell? ⟨b, off + i * 2 + 1, none⟩ = some (.int .i64 (c.aq i))) := by
        rcases HA.out.2 with h | h
        · omega
        · exact h
      have hac : p.asks.n ≤ p.asks.c := HA.out.1
      rw [he] at c22
      have d1 := cell_later B.out (hc k hk).1
      have hw : IntKind.i64.wrap ((k : Int) + 1) = (k : Int) + 1 := by rw [IntKind.wrap_i64]; have := LA.out; omega
      clear hc he
      go_wp2_with fail
      go_must (go_at_call 141)
      refine (rfilter_any (c.af k) _).mono ?_
      rintro e w1 ⟨rfl, hb⟩
      have B1 : Hid (Below W.heap.size W w1) := B.out.trans (hb.mono B.out.size)
      clear hb c22 d1
      cases hq : (rfc (c.af k) == 0)
      case false =>
        have hq' : (rfc (c.af k) != 0) = true := by simpa using hq
        have HR : Hid (x = false) := by show _ = _; rw [HX.out, rflts, allN_false (f := fun i => rfc (c.af i) == 0) k hk hq]; rfl
        clear hq
        go_wp2
        go_ret
        exact ⟨by rw [HR.out]; rfl, BW.out _ B1.out⟩
      have hq' : (rfc (c.af k) != 0) = false := by simpa using hq
      have HN : Hid (∀ j, j < k + 1 → (rfc (c.af j) == 0) = true) := fun j hj => by
        rcases Nat.lt_or_ge j k with h | h
        · exact HD.out j h
        · obtain rfl : j = k := by omega
          exact hq
      clear hq
      go_wp2
      go_roundg (p.asks.n - (k + 1))
      case measure => omega
      case rel => exact ⟨k + 1, by first | rfl | simp, by omega, B1, HN⟩
    · obtain rfl : k = p.asks.n := by omega
      have hk' : ¬ (p.asks.n : Int) < p.asks.n := by omega
      have AL : Hid (allN p.asks.n (fun i => rfc (c.af i) == 0) = true) := (allN_iff _ _).2 HD.out
      go_wp2_with fail
      clear hk' c22
      go_loopg [4] p.filters.n (fun g s4 wx => ∃ k : Nat, s4 = .int .i64 k ∧ k + g = p.filters.n ∧ Hid (Below W.heap.size W wx) ∧ Hid (∀ j, j < k → (rfc (c.fs j) == 0) = true))
      case atStart => exact ⟨0, rfl, by omega, B, fun j hj => absurd hj (Nat.not_lt_zero _)⟩
      case round =>
        obtain ⟨j, rfl, hjg, C, HC⟩ := hrel
        have c24 := cell_later C.out (FA.out 24 (.slice p.filters.a p.filters.n p.filters.c) rfl)
        by_cases hj : j < p.filters.n
        · have hj' : (j : Int) < p.filters.n := by omega
          obtain ⟨b, off, he, hc⟩ : ∃ b off, p.filters.a = some ⟨b, off, none⟩ ∧ ∀ i, i < p.filters.n → W.cell? ⟨b, off + i, none⟩ = some (.string (c.fs i)) := by
            rcases HS.out.2 with h | h
            · omega
            · exact h
          have hac : p.filters.n ≤ p.filters.c := HS.out.1
          rw [he] at c24
          have d1 := cell_later C.out (hc j hj)
          have hw : IntKind.i64.wrap ((j : Int) + 1) = (j : Int) + 1 := by rw [IntKind.wrap_i64]; have := LC.out; omega
          clear hc he
          go_wp2_with fail
          go_must (go_at_call 141)
          refine (rfilter_any (c.fs j) _).mono ?_
          rintro e w1 ⟨rfl, hb⟩
          have B1 : Hid (Below W.heap.size W w1) := C.out.trans (hb.mono C.out.size)
          clear hb c24 d1
          cases hq : (rfc (c.fs j) == 0)
          case false =>
            have hq' : (rfc (c.fs j) != 0) = true := by simpa using hq
            have HR : Hid (x = false) := by show _ = _; rw [HX.out, rflts, allN_false (f := fun i => rfc (c.fs i) == 0) j hj hq]; simp
            clear hq
            go_wp2
            go_ret
            exact ⟨by rw [HR.out]; rfl, BW.out _ B1.out⟩
          have hq' : (rfc (c.fs j) != 0) = false := by simpa using hq
          have HN : Hid (∀ i, i < j + 1 → (rfc (c.fs i) == 0) = true) := fun i hi => by
            rcases Nat.lt_or_ge i j with h | h
            · exact HC.out i h
            · obtain rfl : i = j := by omega
              exact hq
          clear hq
          go_wp2
          go_roundg (p.filters.n - (j + 1))
          case measure => omega
          case rel => exact ⟨j + 1, by first | rfl | simp, by omega, B1, HN⟩
        · obtain rfl : j = p.filters.n := by omega
          have hj' : ¬ (p.filters.n : Int) < p.filters.n := by omega
          have CL : Hid (allN p.filters.n (fun i => rfc (c.fs i) == 0) = true) := (allN_iff _ _).2 HC.out
          have HR : Hid (x = true) := by show _ = _; rw [HX.out, rflts, AL.out, CL.out]; rfl
          go_wp2
          go_ret
          exact ⟨by rw [HR.out]; rfl, BW.out _ C.out⟩
end Go.Proofs.YtcoccggimbficaaGreatDoor
namespace Go.Proofs.YtcoccggimbficaaGreatDoor
/-- The two CheckFilters tell the same. -/
theorem rfc_fcode (s : ByteArray) : rfc s = fcode s := rfl
end Go.Proofs.YtcoccggimbficaaGreatDoor
namespace Go.Proofs.YtcoccggimbficaaGreatDoor
open Go Go.RowKit Go.Sort
set_option linter.unusedSimpArgs false
set_option linter.unusedVariables false

def rbad1 (p : Pk) : Bool := forB p || !bnd p
def rbad6 (p : Pk) : Bool := hasID p && (decide (p.id < 1) || decide (65535 < p.id))
def rbad7 (p : Pk) (c : Cn) : Bool := decide (65535 < p.wP.n) || decide (65535 < p.pass.n) || decide (268435455 < rsz p c)
def rbad8 (p : Pk) : Bool := (p.kind == 8 && decide (p.asks.n = 0)) || (p.kind == 9 && decide (p.codes.n = 0)) || (p.kind == 10 && decide (p.filters.n = 0))
/-- What the document's Check tells. -/
def rck (p : Pk) (c : Cn) : Nat :=
  if !isK p.kind then 20 else if rbad1 p then 21 else if bad2 TT p then 22 else if !rtps p then 23 else if !rflts p c then 24 else if !rqls p c then 25
  else if rbad6 p then 26 else if rbad7 p c then 27 else if rbad8 p then 28 else if bad9 p then 29 else 0

theorem rck_ck (p : Pk) (c : Cn) : rck p c = ck TT p c := by
  unfold rck ck rbad1
  cases hk : isK p.kind
  · rfl
  have hk' : 1 ≤ p.kind ∧ p.kind ≤ 14 := by simpa [isK] using hk
  rw [bad1_for p hk'.1 hk'.2]
  cases hf : forB p
  · have ho := (forB_own p).1 hf
    have e8 : bad8 p = rbad8 p := by
      unfold bad8 rbad8
      rw [fl_list p hk'.1 hk'.2, gv_list p]
      by_cases k8 : p.kind = 8
      · have h1 := ho.codes (by omega)
        have h2 := ho.filters (by omega)
        simp [k8, h1, h2]
      by_cases k9 : p.kind = 9
      · have h1 := ho.asks (by omega)
        have h2 := ho.filters (by omega)
        simp [k9, h1, h2]
      by_cases k10 : p.kind = 10
      · have h1 := ho.asks (by omega)
        have h2 := ho.codes (by omega)
        simp [k10, h1, h2]
      simp [k8, k9, k10]
    have e6 : bad6 p = rbad6 p := by unfold bad6 rbad6; rw [fl_id p hk'.1 hk'.2]
    have e7 : bad7 p c = rbad7 p c := by unfold bad7 rbad7; rw [sz_rsz ho]
    have e4 : flts TT p c = rflts p c := by
      unfold flts rflts
      have ea : (fun i => TT.flt (c.af i)) = fun i => rfc (c.af i) == 0 := by funext i; rw [rfc_fcode]; rfl
      have ef : (fun i => TT.flt (c.fs i)) = fun i => rfc (c.fs i) == 0 := by funext i; rw [rfc_fcode]; rfl
      rw [ea, ef]
    rw [e8, e6, e7, e4, tps_rtps ho, qls_rqls ho]
  · rfl
theorem bnd_three (p : Pk) : bnd p = ((decide (0 ≤ p.level) && decide (p.level ≤ 255)) && (decide (0 ≤ p.code) && decide (p.code ≤ 255)) && (decide (0 ≤ p.keep) && decide (p.keep ≤ 65535))) := by
  simp only [bnd, Bool.and_assoc]
/-- The calls that the document's Check makes, in every later world. -/
structure Rc (w : World) (p : Pk) (c : Cn) (v : Value) : Prop where
  foreign : ∀ w', Calls Tryz.prog 94 #[v] w' fun e w'' => e = .returned (.bool (forB p)) ∧ Below w'.heap.size w' w''
  topics : ∀ w', Calls Tryz.prog 97 #[v] w' fun e w'' => e = .returned (.bool (rtps p)) ∧ Below w'.heap.size w' w''
  filters : ∀ w', Below w.heap.size w w' → Calls Tryz.prog 98 #[v] w' fun e w'' => e = .returned (.bool (rflts p c)) ∧ Below w'.heap.size w' w''
  quals : ∀ w', Below w.heap.size w w' → Calls Tryz.prog 99 #[v] w' fun e w'' => e = .returned (.bool (rqls p c)) ∧ Below w'.heap.size w' w''
  numbered : ∀ w', Calls Tryz.prog 100 #[v] w' fun e w'' => e = .returned (.bool (hasID p)) ∧ Below w'.heap.size w' w''
  bytes : ∀ w', Below w.heap.size w w' → Calls Tryz.prog 101 #[v] w' fun e w'' => e = .returned (.int .i64 (rsz p c)) ∧ Below w'.heap.size w' w''
theorem rc_of {w : World} {p : Pk} {c : Cn} (hin : In w p c) (hs : Small p c) : Rc w p c p.v where
  foreign w' := foreign_any p w'
  topics w' := rtopics_any p w'
  filters w' hb := rfilters_any p c w' (hin.below hb) hs.an hs.fn
  quals w' hb := rqualities_any p c w' (hin.below hb) hs.an hs.cn
  numbered w' := numbered_any p w'
  bytes w' hb := rbytes_any p c w' (hin.below hb) hs

end Go.Proofs.YtcoccggimbficaaGreatDoor
