import Derived.Test.YtglnldopnoafoaaGreatDoorWe
namespace Go.Proofs.YtglnldopnoafoaaGreatDoor
open Go Go.RowKit
set_option linter.unusedSimpArgs false
set_option linter.unusedVariables false

set_option maxRecDepth 100000 in
set_option maxHeartbeats 2000000 in
theorem bey_apart (x y : ByteArray) (r s : List ByteArray) (hx : ¬ unB x = [35]) (hy : ¬ unB y = [35]) (hl : (x :: r).length ≤ 1000000) (hp : (lvlB (unB x) (unB y)).2 = true) : BeyOk (x :: r) (y :: s) := by
  intro vf vg w Rf Rg
  have e0 : bey ((x :: r).map unB) ((y :: s).map unB) = some ((lvlB (unB x) (unB y)).1 :: (r.map unB).map fillB) := by simp [bey, hx, hy, hp]
  rw [e0]
  obtain ⟨i0, hi, hz0, hz1, hz2⟩ : ∃ i0, Tryz.prog.info? 9 = some i0 ∧ i0.zero = some (.string ⟨#[]⟩) ∧ i0.size = 1 ∧ i0.bytes = 16 := ⟨_, rfl, rfl, rfl, rfl⟩
  have HM : Hid (Calls Tryz.prog 143 #[vf] w fun e w' => e = .returned (.bool false) ∧ w' = w) := by have := mayEnd_any (x :: r) vf w Rf; rw [show mayE ((x :: r).map unB) = false by simp [mayE, hx]] at this; exact this
  obtain ⟨g, o, k, cap, rfl, hn, hc, hg, c0, hk⟩ := Rf.cons
  obtain ⟨g2, o2, k2, cap2, rfl, hn2, hc2, hg2, c2, hk2⟩ := Rg.cons
  have q0 : ((k : Int) == 0) = false := by rw [beq_eq_false_iff_ne]; omega
  have q2 : ((k2 : Int) == 0) = false := by rw [beq_eq_false_iff_ne]; omega
  have p0 : (0 : Int) < k := by omega
  have p2 : (0 : Int) < k2 := by omega
  have p3 : (1 : Int) ≤ k := by omega
  have p4 : (1 : Int) ≤ k2 := by omega
  have p5 : (k : Int) ≤ cap := by omega
  have p6 : (k2 : Int) ≤ cap2 := by omega
  have q3 : (y.toList == [35]) = false := by rw [eq_one']; simp [hy]
  obtain ⟨l, hlv⟩ : ∃ l, (lvlB (unB x) (unB y)).1 = l := ⟨_, rfl⟩
  have HC : Hid (∀ w', Calls Tryz.prog 144 #[.string x, .string y] w' fun e w2 => e = .returned (.tuple #[.string (mkB l), .bool true]) ∧ w2 = w') := by intro w'; have := lvl_any x y w'; rw [hlv, hp] at this; exact this
  have HL : Hid (r.length ≤ 1000000) := by show _ ≤ _; simp at hl; omega
  have HK : Hid (k = r.length + 1 ∧ k ≤ cap ∧ k2 = s.length + 1 ∧ k2 ≤ cap2) := ⟨hn, hc, hn2, hc2⟩
  have RF : Hid (∀ (a1 : Option Addr) (c m : Nat), (r ≠ [] → a1 = some ⟨g, o + 1, none⟩) → k - 1 ≤ c → Row (w.drewN m) (.slice a1 (k - 1) c) r) := fun a1 c m h1 h2 => Row.drew (Row.cap (Row.tail hn hc hg hk a1 h1) h2) m
  have RG : Hid (∀ (a1 : Option Addr) (c m : Nat), (s ≠ [] → a1 = some ⟨g2, o2 + 1, none⟩) → k2 - 1 ≤ c → Row (w.drewN m) (.slice a1 (k2 - 1) c) s) := fun a1 c m h1 h2 => Row.drew (Row.cap (Row.tail hn2 hc2 hg2 hk2 a1 h1) h2) m
  rw [hlv]
  obtain ⟨t, ht⟩ : ∃ t, (r.map unB).map fillB = t := ⟨_, rfl⟩
  have HT : Hid ((r.map unB).map fillB = t) := ht
  rw [ht]
  have HLT : Hid (t.length ≤ 1000000) := by show _ ≤ _; rw [← ht]; simp; exact HL.out
  clear ht
  clear Rf Rg e0 hk hk2 hn hn2 hc hc2 hg hg2 hx hy hp hlv hl
  go_enter Tryz.func89, Tryz.ntmps89
  go_wp2_with fail
  go_must (go_at_call 143)
  refine HM.out.mono ?_
  rintro e w1 ⟨rfl, hee⟩
  obtain rfl := hee.symm
  clear hee
  go_wp2_with fail
  go_quiet ((go_at_call 144; exact Calls.quiet_of_same (HC.out _)))
  have B0 : Hid (Below w.heap.size w (w.drewN nq)) := below_drewN (Below.refl _ _) nq
  have RF1 : Hid (∀ (a1 : Option Addr) (c : Nat), (r ≠ [] → a1 = some ⟨g, o + 1, none⟩) → k - 1 ≤ c → Row (w.drewN nq) (.slice a1 (k - 1) c) r) := fun a1 c => RF.out a1 c nq
  have RG1 : Hid (∀ (a1 : Option Addr) (c : Nat), (s ≠ [] → a1 = some ⟨g2, o2 + 1, none⟩) → k2 - 1 ≤ c → Row (w.drewN nq) (.slice a1 (k2 - 1) c) s) := fun a1 c => RG.out a1 c nq
  have HS : Hid ((w.drewN nq).heap.size = w.heap.size) := rfl
  obtain ⟨w1, hw1⟩ : ∃ w1, w1 = w.drewN nq := ⟨_, rfl⟩
  rw [← hw1] at B0 RF1 RG1 HS ⊢
  clear hw1 RF RG
  go_wp2_with fail
  all_goals (
    go_must (go_at_call 88)
    refine (filled_told r _ w1 (RF1.out _ _ (fun hne => by have h1 := HK.out; have h2 := List.length_pos_iff.2 hne; first | rfl | omega) (by have h1 := HK.out; omega)) HL.out).mono ?_
    rintro e w3 ⟨v3, rfl, ht, hb⟩
    have HO : Hid (w3.ownsRow w.heap.size 9 1 v3 t.length ((t.reverse.map mkB).map Value.string)) := by rw [HS.out, HT.out] at ht; exact ht t rfl
    have B3 : Hid (Below w.heap.size w w3) := by rw [HS.out] at hb; exact B0.out.trans hb
    clear ht hb
    go_wp2_with (at_builtin; refine wpList_append_own _ rfl (.tmp 46) (.tmp 48) 22 rfl w.heap.size 9 i0 (.string ⟨#[]⟩) 1 16 Tryz.underlying22 hi hz0 hz1 hz2 rfl (by decide) _ _ _ rfl (HO.out.alloc _) ⟨_, 0, none⟩ 1 1 [.string (mkB l)] rfl rfl (cell_one_new _ _ _) (by intro u hu; simp at hu; subst hu; rfl) (by have := HLT.out; unfold maxLen; omega) (by have := HLT.out; omega) (by have := B3.out.size; simp; omega) ?_)
    intro v4 w4 hown2 hgrow2 hnil2
    have hb2 := (B3.out.alloc B3.out.size _).grown hgrow2 (by have := B3.out.size; simp; omega) (by intro q hq; exact (HO.out.lt _ hq).1)
    have HO2 : Hid (Told w4 w.heap.size v4 (some (l :: t))) := by
      intro u hu
      simp only [Option.some.injEq] at hu
      subst hu
      simpa using hown2
    have HB2 : Hid (Below w.heap.size w w4) := hb2
    clear hown2 hgrow2 hnil2 hb2
    go_wp2
    go_ret2
    exact ⟨v4, rfl, HO2.out, HB2.out⟩)
end Go.Proofs.YtglnldopnoafoaaGreatDoor

namespace Go.Proofs.YtglnldopnoafoaaGreatDoor
open Go Go.RowKit
set_option linter.unusedSimpArgs false
set_option linter.unusedVariables false

set_option maxRecDepth 100000 in
set_option maxHeartbeats 2000000 in
theorem bey_go (x y : ByteArray) (r s : List ByteArray) (hx : ¬ unB x = [35]) (hy : ¬ unB y = [35]) (hl : (x :: r).length ≤ 1000000) (hp : (lvlB (unB x) (unB y)).2 = false) (ih : BeyOk r s) : BeyOk (x :: r) (y :: s) := by
  intro vf vg w Rf Rg
  have e0 : bey ((x :: r).map unB) ((y :: s).map unB) = (bey (r.map unB) (s.map unB)).map ((lvlB (unB x) (unB y)).1 :: ·) := by simp [bey, hx, hy, hp]
  rw [e0]
  obtain ⟨i0, hi, hz0, hz1, hz2⟩ : ∃ i0, Tryz.prog.info? 9 = some i0 ∧ i0.zero = some (.string ⟨#[]⟩) ∧ i0.size = 1 ∧ i0.bytes = 16 := ⟨_, rfl, rfl, rfl, rfl⟩
  have HM : Hid (Calls Tryz.prog 143 #[vf] w fun e w' => e = .returned (.bool false) ∧ w' = w) := by have := mayEnd_any (x :: r) vf w Rf; rw [show mayE ((x :: r).map unB) = false by simp [mayE, hx]] at this; exact this
  obtain ⟨g, o, k, cap, rfl, hn, hc, hg, c0, hk⟩ := Rf.cons
  obtain ⟨g2, o2, k2, cap2, rfl, hn2, hc2, hg2, c2, hk2⟩ := Rg.cons
  have q0 : ((k : Int) == 0) = false := by rw [beq_eq_false_iff_ne]; omega
  have q2 : ((k2 : Int) == 0) = false := by rw [beq_eq_false_iff_ne]; omega
  have p0 : (0 : Int) < k := by omega
  have p2 : (0 : Int) < k2 := by omega
  have p3 : (1 : Int) ≤ k := by omega
  have p4 : (1 : Int) ≤ k2 := by omega
  have p5 : (k : Int) ≤ cap := by omega
  have p6 : (k2 : Int) ≤ cap2 := by omega
  have q3 : (y.toList == [35]) = false := by rw [eq_one']; simp [hy]
  obtain ⟨l, hlv⟩ : ∃ l, (lvlB (unB x) (unB y)).1 = l := ⟨_, rfl⟩
  have HC : Hid (∀ w', Calls Tryz.prog 144 #[.string x, .string y] w' fun e w2 => e = .returned (.tuple #[.string (mkB l), .bool false]) ∧ w2 = w') := by intro w'; have := lvl_any x y w'; rw [hlv, hp] at this; exact this
  have HL : Hid (r.length ≤ 1000000) := by show _ ≤ _; simp at hl; omega
  have HK : Hid (k = r.length + 1 ∧ k ≤ cap ∧ k2 = s.length + 1 ∧ k2 ≤ cap2) := ⟨hn, hc, hn2, hc2⟩
  have RF : Hid (∀ (a1 : Option Addr) (c m : Nat), (r ≠ [] → a1 = some ⟨g, o + 1, none⟩) → k - 1 ≤ c → Row (w.drewN m) (.slice a1 (k - 1) c) r) := fun a1 c m h1 h2 => Row.drew (Row.cap (Row.tail hn hc hg hk a1 h1) h2) m
  have RG : Hid (∀ (a1 : Option Addr) (c m : Nat), (s ≠ [] → a1 = some ⟨g2, o2 + 1, none⟩) → k2 - 1 ≤ c → Row (w.drewN m) (.slice a1 (k2 - 1) c) s) := fun a1 c m h1 h2 => Row.drew (Row.cap (Row.tail hn2 hc2 hg2 hk2 a1 h1) h2) m
  rw [hlv]
  have IH : Hid (BeyOk r s) := ih
  have HLB : Hid (∀ t, bey (r.map unB) (s.map unB) = some t → t.length ≤ 1000000) := fun t ht => Nat.le_trans (sh_len _ _ (bey_right _ _ _ ht).2.2) (by simp; exact HL.out)
  clear ih
  clear Rf Rg e0 hk hk2 hn hn2 hc hc2 hg hg2 hx hy hp hlv hl
  go_enter Tryz.func89, Tryz.ntmps89
  go_wp2_with fail
  go_must (go_at_call 143)
  refine HM.out.mono ?_
  rintro e w1 ⟨rfl, hee⟩
  obtain rfl := hee.symm
  clear hee
  go_wp2_with fail
  go_quiet ((go_at_call 144; exact Calls.quiet_of_same (HC.out _)))
  have B0 : Hid (Below w.heap.size w (w.drewN nq)) := below_drewN (Below.refl _ _) nq
  have RF1 : Hid (∀ (a1 : Option Addr) (c : Nat), (r ≠ [] → a1 = some ⟨g, o + 1, none⟩) → k - 1 ≤ c → Row (w.drewN nq) (.slice a1 (k - 1) c) r) := fun a1 c => RF.out a1 c nq
  have RG1 : Hid (∀ (a1 : Option Addr) (c : Nat), (s ≠ [] → a1 = some ⟨g2, o2 + 1, none⟩) → k2 - 1 ≤ c → Row (w.drewN nq) (.slice a1 (k2 - 1) c) s) := fun a1 c => RG.out a1 c nq
  have HS : Hid ((w.drewN nq).heap.size = w.heap.size) := rfl
  obtain ⟨w1, hw1⟩ : ∃ w1, w1 = w.drewN nq := ⟨_, rfl⟩
  rw [← hw1] at B0 RF1 RG1 HS ⊢
  clear hw1 RF RG
  go_wp2_with fail
  have B0d : Hid (∀ w2, w2 = w1.drew → Below w.heap.size w w2) := fun w2 e => by rw [e]; exact B0.out.drew
  have IH1 : Hid (∀ a1 c1 a2 c2, (r ≠ [] → a1 = some ⟨g, o + 1, none⟩) → k - 1 ≤ c1 → (s ≠ [] → a2 = some ⟨g2, o2 + 1, none⟩) → k2 - 1 ≤ c2 → Calls Tryz.prog 89 #[.slice a1 (k - 1) c1, .slice a2 (k2 - 1) c2] w1.drew fun e w' => ∃ v, e = .returned (.tuple #[v, .bool (bey (r.map unB) (s.map unB)).isSome]) ∧ Told w' w1.drew.heap.size v (bey (r.map unB) (s.map unB)) ∧ Below w1.drew.heap.size w1.drew w') := fun a1 c1 a2 c2 h1 h2 h3 h4 => IH.out _ _ w1.drew ((RF1.out _ _ h1 h2).drew 1) ((RG1.out _ _ h3 h4).drew 1)
  obtain ⟨cc, hcc⟩ : ∃ cc, bey (r.map unB) (s.map unB) = cc := ⟨_, rfl⟩
  have HCC : Hid (bey (r.map unB) (s.map unB) = cc) := hcc
  rw [hcc] at IH1 HLB
  clear hcc
  clear RF1 RG1 IH
  by_cases hc1 : cap = 1 <;> by_cases hc2 : cap2 = 1
  all_goals (
    cases cc with
    | none =>
      first | go_region_with (go_at_call 89; refine (IH1.out _ _ _ _ (fun hne => by have h1 := HK.out; have h2 := List.length_pos_iff.2 hne; first | rfl | omega) (by have h1 := HK.out; omega) (fun hne => by have h1 := HK.out; have h2 := List.length_pos_iff.2 hne; first | rfl | omega) (by have h1 := HK.out; omega)).mono ?_; rintro e w3 ⟨v3, rfl, ht, hb⟩; have B3 : Hid (Below w.heap.size w w3) := (B0d.out _ rfl).trans (by have h5 : w1.drew.heap.size = w.heap.size := HS.out; rw [h5] at hb; exact hb); clear ht hb) | fail
      all_goals (go_wp2_with fail; go_ret2; rw [HCC.out]; exact ⟨_, rfl, told_none _ _ _, B3.out⟩)
    | some t =>
      have HLT : Hid (t.length ≤ 1000000) := HLB.out t rfl
      first | go_region_with (go_at_call 89; refine (IH1.out _ _ _ _ (fun hne => by have h1 := HK.out; have h2 := List.length_pos_iff.2 hne; first | rfl | omega) (by have h1 := HK.out; omega) (fun hne => by have h1 := HK.out; have h2 := List.length_pos_iff.2 hne; first | rfl | omega) (by have h1 := HK.out; omega)).mono ?_; rintro e w3 ⟨v3, rfl, ht, hb⟩; have B3 : Hid (Below w.heap.size w w3) := (B0d.out _ rfl).trans (by have h5 : w1.drew.heap.size = w.heap.size := HS.out; rw [h5] at hb; exact hb); have HO : Hid (w3.ownsRow w.heap.size 9 1 v3 t.length ((t.reverse.map mkB).map Value.string)) := (by have h5 : w1.drew.heap.size = w.heap.size := HS.out; rw [h5] at ht; exact ht t rfl); clear ht hb) | fail
      all_goals (
        go_wp2_with (at_builtin; refine wpList_append_own _ rfl (.tmp 60) (.tmp 62) 22 rfl w.heap.size 9 i0 (.string ⟨#[]⟩) 1 16 Tryz.underlying22 hi hz0 hz1 hz2 rfl (by decide) _ _ _ rfl (HO.out.alloc _) ⟨_, 0, none⟩ 1 1 [.string (mkB l)] rfl rfl (cell_one_new _ _ _) (by intro u hu; simp at hu; subst hu; rfl) (by have := HLT.out; unfold maxLen; omega) (by have := HLT.out; omega) (by have := B3.out.size; simp; omega) ?_)
        intro v4 w4 hown2 hgrow2 hnil2
        have hb2 := (B3.out.alloc B3.out.size _).grown hgrow2 (by have := B3.out.size; simp; omega) (by intro q hq; exact (HO.out.lt _ hq).1)
        have HO2 : Hid (Told w4 w.heap.size v4 (some (l :: t))) := by
          intro u hu
          simp only [Option.some.injEq] at hu
          subst hu
          simpa using hown2
        have HB2 : Hid (Below w.heap.size w w4) := hb2
        clear hown2 hgrow2 hnil2 hb2
        go_wp2
        go_ret2
        rw [HCC.out]
        exact ⟨v4, rfl, HO2.out, HB2.out⟩))
theorem bey_any : ∀ (fs gs : List ByteArray), fs.length ≤ 1000000 → BeyOk fs gs
  | [], [], _ => bey_nils
  | x :: r, [], h => bey_rest x r h
  | [], y :: s, _ => by
    by_cases hy : unB y = [35]
    · exact bey_nil_hash y s hy
    · exact bey_nil_end y s hy
  | x :: r, y :: s, h => by
    by_cases hy : unB y = [35]
    · exact bey_cons_hash x r y s hy
    · by_cases hx : unB x = [35]
      · exact bey_cons_end x r y s hy hx
      · cases hp : (lvlB (unB x) (unB y)).2 with
        | true => exact bey_apart x y r s hx hy h hp
        | false => exact bey_go x y r s hx hy h hp (bey_any r s (by simp at h; omega))
end Go.Proofs.YtglnldopnoafoaaGreatDoor

