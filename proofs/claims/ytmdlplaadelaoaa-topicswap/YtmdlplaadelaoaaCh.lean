import Derived.Test.YtmdlplaadelaoaaCg
namespace Go.Proofs.Ytmdlplaadelaoaa
open Go Go.RowKit
set_option linter.unusedSimpArgs false
set_option linter.unusedVariables false

set_option maxRecDepth 100000 in
set_option maxHeartbeats 4000000 in
theorem known_any (w : World) : Calls Try.prog 11 #[] w fun e w' => e = .returned (.bool true) ∧ Below w.heap.size w w' := by
  have k1 : mch ⟨#[97, 47, 35]⟩ ⟨#[97]⟩ = true := by kernel_rfl
  have k2 : mch ⟨#[97, 47, 35]⟩ ⟨#[97, 47, 98, 47, 99]⟩ = true := by kernel_rfl
  have k3 : mch ⟨#[43]⟩ ⟨#[97]⟩ = true := by kernel_rfl
  have k4 : mch ⟨#[43, 47, 43]⟩ ⟨#[47]⟩ = true := by kernel_rfl
  have k5 : mch ⟨#[36, 97, 47, 43]⟩ ⟨#[36, 97, 47, 98]⟩ = true := by kernel_rfl
  have k6 : mch ⟨#[35]⟩ ⟨#[47]⟩ = true := by kernel_rfl
  have m1 : mch ⟨#[97, 47, 35]⟩ ⟨#[97, 98]⟩ = false := by kernel_rfl
  have m2 : mch ⟨#[43]⟩ ⟨#[47, 97]⟩ = false := by kernel_rfl
  have m3 : mch ⟨#[35]⟩ ⟨#[36, 97]⟩ = false := by kernel_rfl
  have m4 : mch ⟨#[43, 47, 98]⟩ ⟨#[36, 97, 47, 98]⟩ = false := by kernel_rfl
  have m5 : mch ⟨#[97]⟩ ⟨#[97, 47]⟩ = false := by kernel_rfl
  have m6 : mch ⟨#[97, 35]⟩ ⟨#[97, 35]⟩ = false := by kernel_rfl
  have c1 : cmpL (unB ⟨#[97, 47, 98]⟩) (unB ⟨#[97, 46, 98]⟩) = -1 := by kernel_rfl
  have c2 : tcode ⟨#[97, 47, 43]⟩ = 52 := by kernel_rfl
  have c3 : rfc ⟨#[97, 47, 43, 47, 35]⟩ = 0 := by kernel_rfl
  have c4 : (levels ⟨#[97, 47, 47, 98]⟩).length = 3 := by kernel_rfl
  have B : Hid (Below w.heap.size w w) := Below.refl _ _
  obtain ⟨w0, hw0⟩ : ∃ w0, w0 = w := ⟨_, rfl⟩
  rw [← hw0] at B
  rw [← hw0]
  have B : Hid (Below w0.heap.size w0 w0) := Below.refl _ _
  clear hw0
  go_enter Try.func11, Try.ntmps11
  go_wp2_with (first
    | (go_at_call 9; refine (tmatch_any _ _ _).mono ?_; rintro e w' ⟨rfl, hb⟩; replace B : Hid (Below w0.heap.size w0 w') := B.out.trans (hb.mono B.out.size); clear hb; first | rw [k1] | rw [k2] | rw [k3] | rw [k4] | rw [k5] | rw [k6] | rw [m1] | rw [m2] | rw [m3] | rw [m4] | rw [m5] | rw [m6])
    | (go_at_call 7; refine (compare_any _ _ (by decide) (by decide) _).mono ?_; rintro e w' ⟨rfl, hb⟩; replace B : Hid (Below w0.heap.size w0 w') := B.out.trans (hb.mono B.out.size); clear hb; rw [c1])
    | (go_at_call 14; refine (tcheck_any _ _).mono ?_; rintro e w' ⟨rfl, hb⟩; replace B : Hid (Below w0.heap.size w0 w') := B.out.trans (hb.mono B.out.size); clear hb; rw [c2])
    | (go_at_call 15; refine (fcheck_any _ _).mono ?_; rintro e w' ⟨rfl, hb⟩; replace B : Hid (Below w0.heap.size w0 w') := B.out.trans (hb.mono B.out.size); clear hb; rw [c3])
    | (go_at_call 13; refine (tlevels_row _ (by decide) _).mono ?_; rintro e w' ⟨v, rfl, hr, hb⟩; replace B : Hid (Below w0.heap.size w0 w') := B.out.trans (hb.mono B.out.size); clear hb; obtain ⟨va, vn, vcap, rfl, hvn, _, _⟩ := hr; rw [c4] at hvn; subst hvn))
  go_ret
  exact ⟨rfl, B.out⟩

set_option maxRecDepth 100000 in
set_option maxHeartbeats 1000000 in
theorem below_yes (fs rs : List ByteArray) (vl vf : Value) (w : World) (Rl : Row w vl (fs ++ rs)) (Rf : Row w vf fs) (hs : fs.length ≤ 1000001) : Calls Try.prog 12 #[vl, vf] w fun e w' => e = .returned (.bool true) ∧ Below w.heap.size w w' := by
  obtain ⟨a1, n1, cap1, rfl, hn1, hc1, hx1⟩ := Rl
  obtain ⟨a2, n2, cap2, rfl, hn2, hc2, hx2⟩ := Rf
  have HN : Hid (n1 = fs.length + rs.length ∧ n2 = fs.length ∧ n1 ≤ cap1 ∧ n2 ≤ cap2 ∧ fs.length ≤ 1000001) := ⟨by rw [hn1, List.length_append], hn2, hc1, hc2, hs⟩
  have h12 : ¬ (n1 : Int) < n2 := by have := HN.out; omega
  have HA : Hid (fs ++ rs ≠ [] → ∃ g o, a1 = some ⟨g, o, none⟩ ∧ g < w.heap.size ∧ ∀ k x, (fs ++ rs)[k]? = some x → w.cell? ⟨g, o + k, none⟩ = some (.string x)) := hx1
  have HB : Hid (fs ≠ [] → ∃ g o, a2 = some ⟨g, o, none⟩ ∧ g < w.heap.size ∧ ∀ k x, fs[k]? = some x → w.cell? ⟨g, o + k, none⟩ = some (.string x)) := hx2
  clear hn1 hc1 hx1 hn2 hc2 hx2 hs
  go_enter Try.func12, Try.ntmps12
  go_wp2_with fail
  go_loopg [5] n2 (fun gg s5 wx => ∃ k : Nat, k ≤ n2 ∧ gg = n2 - k ∧ s5 = .int .i64 k ∧ Hid (Below w.heap.size w wx))
  case atStart => exact ⟨0, Nat.zero_le _, rfl, rfl, Below.refl _ _⟩
  case round =>
    obtain ⟨k, hk, rfl, rfl, B⟩ := hrel
    by_cases hlt : k < n2
    · have hlt' : (k : Int) < n2 := by omega
      have hlt1 : (k : Int) < n1 := by omega
      obtain ⟨f, hf⟩ : ∃ f, fs[k]? = some f := ⟨_, List.getElem?_eq_getElem (by have := HN.out.2.1; omega)⟩
      have hf2 : (fs ++ rs)[k]? = some f := by rw [List.getElem?_append_left (by have := HN.out.2.1; omega)]; exact hf
      obtain ⟨g, o, rfl, hg, hcells⟩ := HA.out (fun e => by rw [e] at hf2; simp at hf2)
      obtain ⟨g2, o2, rfl, hg2, hcells2⟩ := HB.out (fun e => by rw [e] at hf; simp at hf)
      have c1 : wr.cell? ⟨g, o + k, none⟩ = some (.string f) := by rw [B.out.cell (by exact hg)]; exact hcells k f hf2
      have c2 : wr.cell? ⟨g2, o2 + k, none⟩ = some (.string f) := by rw [B.out.cell (by exact hg2)]; exact hcells2 k f hf
      have q1 : (f.toList == f.toList) = true := by simp
      have hcap := HN.out.2.2.1
      have hcap2 := HN.out.2.2.2.1
      have hw : IntKind.i64.wrap ((k : Int) + 1) = (k : Int) + 1 := by rw [IntKind.wrap_i64]; have := HN.out; omega
      clear hcells hcells2 hf hf2 hg hg2
      go_wp2_with fail
      go_quiet (fail)
      have B1 : Hid (Below w.heap.size w (wr.drewN nq)) := below_drewN B.out nq
      go_wp2_with fail
      go_roundg (n2 - (k + 1))
      case measure => omega
      case rel => exact ⟨k + 1, by omega, by omega, by first | rfl | simp, B1⟩
    · obtain rfl : k = n2 := by omega
      have hlt' : ¬ (k : Int) < k := by omega
      go_wp2_with fail
      go_ret
      exact ⟨rfl, B.out⟩
end Go.Proofs.Ytmdlplaadelaoaa
