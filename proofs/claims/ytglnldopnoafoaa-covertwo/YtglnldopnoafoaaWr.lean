import Derived.Test.YtglnldopnoafoaaWq
namespace Go.Proofs.Ytglnldopnoafoaa
open Go Go.RowKit
set_option linter.unusedSimpArgs false
set_option linter.unusedVariables false

theorem row_lit (w : World) (cs : Array Value) (xs : List ByteArray) (h : cs.toList = xs.map Value.string) : Row (w.alloc (.cells cs 9)) (.slice (some ⟨w.heap.size, 0, none⟩) xs.length xs.length) xs := by
  refine ⟨_, _, _, rfl, rfl, Nat.le_refl _, fun _ => ⟨w.heap.size, 0, rfl, by simp, fun k x hk => ?_⟩⟩
  rw [World.cell?_alloc_at _ _ _ _ rfl, Nat.zero_add, ← Array.getElem?_toList, h, List.getElem?_map, hk]
  rfl
set_option maxRecDepth 100000 in
set_option maxHeartbeats 2000000 in
theorem known_any (w : World) : Calls Try.prog 13 #[] w fun e w' => e = .returned (.bool true) ∧ Below w.heap.size w w' := by
  have B : Hid (Below w.heap.size w w) := Below.refl _ _
  go_enter Try.func13, Try.ntmps13
  go_wp2_with fail
  go_must (go_at_call 7)
  refine (meet_lit _ _ _ k1 w).mono ?_
  rintro e w1 ⟨rfl, hb⟩
  replace B : Hid (Below w.heap.size w w1) := B.out.trans (hb.mono B.out.size)
  clear hb
  go_wp2_with fail
  go_must (go_at_call 7)
  refine (meet_lit0 _ _ k2 w1).mono ?_
  rintro e w2 ⟨rfl, hb⟩
  replace B : Hid (Below w.heap.size w w2) := B.out.trans (hb.mono B.out.size)
  clear hb
  go_wp2_with fail
  go_must (go_at_call 10)
  refine (out_lit0 _ _ k3 w2).mono ?_
  rintro e w3 ⟨rfl, hb⟩
  replace B : Hid (Below w.heap.size w w3) := B.out.trans (hb.mono B.out.size)
  clear hb
  go_wp2_with fail
  go_must (go_at_call 10)
  refine (out_lit _ _ _ k4 w3).mono ?_
  rintro e w4 ⟨rfl, hb⟩
  replace B : Hid (Below w.heap.size w w4) := B.out.trans (hb.mono B.out.size)
  clear hb
  go_wp2_with fail
  go_must (go_at_call 16)
  have hR := row_lit w4 #[.string ⟨#[97, 47, 98]⟩, .string ⟨#[97, 47, 43]⟩, .string ⟨#[43, 47, 35]⟩, .string ⟨#[35]⟩] [⟨#[97, 47, 98]⟩, ⟨#[97, 47, 43]⟩, ⟨#[43, 47, 35]⟩, ⟨#[35]⟩] rfl
  refine (least_any _ (by decide) _ _ hR).mono ?_
  clear hR
  rintro e w5 ⟨v5, rfl, hr, hb⟩
  replace B : Hid (Below w.heap.size w w5) := (B.out.alloc B.out.size _).trans (hb.mono (by have := B.out.size; simp; omega))
  have R5 : Hid (Row w5 v5 [⟨#[43, 47, 35]⟩]) := by rw [show ([⟨#[97, 47, 98]⟩, ⟨#[97, 47, 43]⟩, ⟨#[43, 47, 35]⟩, ⟨#[35]⟩] : List ByteArray).length = 4 from rfl, k5] at hr; exact hr
  clear hb hr
  have q1 : ((mkB [97, 47, 98]).toList == [97, 47, 98]) = true := by rw [un_list, un_mk]; rfl
  go_wp2_with fail
  go_must (go_at_call 14)
  refine (tmatch_any _ _ w5).mono ?_
  rintro e w6 ⟨rfl, hb⟩
  replace B : Hid (Below w.heap.size w w6) := B.out.trans (hb.mono B.out.size)
  have R6 : Hid (Row w6 v5 [⟨#[43, 47, 35]⟩]) := R5.out.later hb
  clear hb R5
  rw [k6]
  go_wp2_with fail
  go_must (go_at_call 14)
  refine (tmatch_any _ _ w6).mono ?_
  rintro e w7 ⟨rfl, hb⟩
  replace B : Hid (Below w.heap.size w w7) := B.out.trans (hb.mono B.out.size)
  have R7 : Hid (Row w7 v5 [⟨#[43, 47, 35]⟩]) := R6.out.later hb
  clear hb R6
  rw [k7]
  go_wp2_with fail
  go_must (go_at_call 33)
  have hR := row_lit w7 #[.string ⟨#[43, 47, 35]⟩] [⟨#[43, 47, 35]⟩] rfl
  have hS : Row (w7.alloc (.cells #[.string ⟨#[43, 47, 35]⟩] 9)) v5 [⟨#[43, 47, 35]⟩] := R7.out.later ((Below.refl _ _).alloc (Nat.le_refl _) _)
  refine (same_any _ (by decide) _ _ _ hS hR).mono ?_
  clear hR hS R7
  rintro e w8 ⟨rfl, k, hw⟩
  replace B : Hid (Below w.heap.size w w8) := by rw [hw]; exact below_drewN (B.out.alloc B.out.size _) k
  clear hw
  go_wp2_with fail
  go_must (go_at_call 12)
  refine (within_any _ _ w8).mono ?_
  rintro e w9 ⟨rfl, hb⟩
  replace B : Hid (Below w.heap.size w w9) := B.out.trans (hb.mono B.out.size)
  clear hb
  rw [k8]
  go_wp2_with fail
  go_must (go_at_call 12)
  refine (within_any _ _ w9).mono ?_
  rintro e w10 ⟨rfl, hb⟩
  replace B : Hid (Below w.heap.size w w10) := B.out.trans (hb.mono B.out.size)
  clear hb
  rw [k9]
  go_wp2_with fail
  go_ret
  exact ⟨rfl, B.out⟩
end Go.Proofs.Ytglnldopnoafoaa
