import Derived.Test.YtmihpmmkkklpfaaGreatDoorBTd
import Derived.Test.YtmihpmmkkklpfaaGreatDoorBRb
namespace Go.Proofs.YtmihpmmkkklpfaaGreatDoor
open Go Go.RowKit Go.Shelf Go.Maps Go.Sort
set_option linter.unusedSimpArgs false
set_option linter.unusedVariables false
/-! ### One call -/
structure Dn where
  z : Pz
  X : List Pp
  ok : Bool
  n : Int
/-- One call of the law's script. -/
structure Oc where
  kd : Int
  nn : Int
  id : Int
  fl : ByteArray
  q : Int
  m : Mp
noncomputable def pDo (mo : Int) (z : Pz) (o : Oc) : Dn :=
  if o.kd = 1 then ⟨{ z with p := (pUp z.p).1 }, (pUp z.p).2, false, 0⟩
  else if o.kd = 2 then ⟨{ z with p := { z.p with on := false } }, [], false, 0⟩
  else if o.kd = 3 then ⟨(pSub mo z o.fl o.q).1, [], false, (pSub mo z o.fl o.q).2⟩
  else if o.kd = 4 then ⟨pUnsub z o.fl, [], (z.f o.fl).isSome, 0⟩
  else if o.kd = 6 then ⟨(pDel z o.m).1, (pDel z o.m).2.1, (pDel z o.m).2.2, 0⟩
  else if o.kd = 7 then ⟨{ z with p := (pAck z.p o.nn o.id).1 }, (pAck z.p o.nn o.id).2, false, 0⟩
  else if o.kd = 8 then ⟨(pNote z o.id).1, [], (pNote z o.id).2, 0⟩
  else if o.kd = 9 then ⟨pRel z o.id, [], (z.g o.id).isSome, 0⟩
  else ⟨z, [], false, 0⟩
theorem Lst.none (W : World) : Lst W (.slice none 0 0) [] := ⟨[], ⟨rfl, .inl ⟨rfl, rfl⟩⟩, by simp, rfl⟩
section
variable {G : Nat → Prop} {W : World} {sb wb : Nat} {k : ByteArray} {la : Bool} {mo : Int} {z : Pz} {c : Nat} {sv nv : Value}
theorem Left.pre {w1 w' : World} (hb : Below W.heap.size W w1) {d : Nat} {y : Pz} (h : Left G w1 w' sb wb k la mo y d) (hG : ∀ j, G j → j < W.heap.size) : Left G W w' sb wb k la mo y d := by
  obtain ⟨sv, nv, s, fr, kq⟩ := h
  exact ⟨sv, nv, s, (Fr.below hb).trans fr, (KQ.below hb).trans kq⟩
theorem Left.more {w1 w' : World} {d : Nat} {y : Pz} (h : Left G w1 w' sb wb k la mo y d) : Left G w1 w' sb wb k la mo y (d + 1) := by
  obtain ⟨sv, nv, s, fr, kq⟩ := h
  exact ⟨sv, nv, { s with ks := s.ks.more (Nat.le_succ _) }, fr, kq⟩
set_option maxRecDepth 100000 in
set_option maxHeartbeats 4000000 in
theorem does_up (h : SZ G W sb wb k la mo z c sv nv) (wh nn id : Int) (fl : ByteArray) (q : Int) (t : ByteArray) (pa : Option Addr) (pn pc : Nat) (mq : Int) (r : Bool) (hc : c ≤ 200000) :
    Calls Tryz.prog 8 #[.pointer (some ⟨sb, 0, none⟩), .agg #[.int .i64 1, .int .i64 wh, .int .i64 nn, .int .i64 id, .string fl, .int .i64 q, .string t, .slice pa pn pc, .int .i64 mq, .bool r]] W fun e w' => ∃ v, e = .returned (.tuple #[v, .bool false, .int .i64 0]) ∧ Left G W w' sb wb k la mo { z with p := (pUp z.p).1 } (c + 1) ∧ Lst w' v (pUp z.p).2 := by
  obtain ⟨w1, hw1⟩ : ∃ w1, w1 = W.alloc (.cells #[.int .i64 1, .int .i64 wh, .int .i64 nn, .int .i64 id, .string fl, .int .i64 q, .string t, .slice pa pn pc, .int .i64 mq, .bool r] 47) := ⟨_, rfl⟩
  have x1 := heap_alloc_new W (.cells #[.int .i64 1, .int .i64 wh, .int .i64 nn, .int .i64 id, .string fl, .int .i64 q, .string t, .slice pa pn pc, .int .i64 mq, .bool r] 47)
  have b1 : Below W.heap.size W (W.alloc (.cells #[.int .i64 1, .int .i64 wh, .int .i64 nn, .int .i64 id, .string fl, .int .i64 q, .string t, .slice pa pn pc, .int .i64 mq, .bool r] 47)) := (Below.refl _ _).alloc (Nat.le_refl _) _
  rw [← hw1] at x1 b1
  have hG : ∀ j, G j → j < W.heap.size := fun j hj => by
    obtain ⟨i, _, _, hF⟩ := h.ks.ex
    exact (hF j (.inl hj)).1
  have h1 : SZ G w1 sb wb k la mo z c sv nv := S1.below h b1
  have a0 : w1.cell? ⟨sb, 0, none⟩ = some (.pointer (some ⟨wb, 0, none⟩)) := box_cells h1.ss 0 _ rfl
  have e0 := box_cells x1 0 _ rfl
  have e2 := box_cells x1 2 _ rfl
  have e3 := box_cells x1 3 _ rfl
  have e4 := box_cells x1 4 _ rfl
  have e5 := box_cells x1 5 _ rfl
  have e6 := box_cells x1 6 _ rfl
  have e7 := box_cells x1 7 _ rfl
  have e8 := box_cells x1 8 _ rfl
  have e9 := box_cells x1 9 _ rfl
  have HB := hidi (And.intro b1 hG)
  have HC := hidi (s1_up h1 hc)
  clear h h1 x1 b1 hG
  go_enter Tryz.func8, Tryz.ntmps8
  go_upto_region 1 with fail
  rw [← hw1]
  clear hw1
  go_wp2_with (go_at_call 15; refine HC.out.mono ?_; clear HC; rintro e w2 ⟨v', rfl, hl, l⟩)
  obtain ⟨va, vn, vc, rfl⟩ : ∃ a n c, v' = .slice a n c := by obtain ⟨S, ho, _⟩ := l; obtain ⟨a, c, e⟩ := own_sl ho; exact ⟨a, _, c, e⟩
  have HL := hidi (And.intro hl l)
  clear hl l
  go_wp2_with fail
  go_ret3
  exact ⟨_, rfl, (Left.pre HB.out.1 HL.out.1 HB.out.2).more, HL.out.2⟩
set_option maxRecDepth 100000 in
set_option maxHeartbeats 4000000 in
theorem does_down (h : SZ G W sb wb k la mo z c sv nv) (wh nn id : Int) (fl : ByteArray) (q : Int) (t : ByteArray) (pa : Option Addr) (pn pc : Nat) (mq : Int) (r : Bool)  :
    Calls Tryz.prog 8 #[.pointer (some ⟨sb, 0, none⟩), .agg #[.int .i64 2, .int .i64 wh, .int .i64 nn, .int .i64 id, .string fl, .int .i64 q, .string t, .slice pa pn pc, .int .i64 mq, .bool r]] W fun e w' => ∃ v, e = .returned (.tuple #[v, .bool false, .int .i64 0]) ∧ Left G W w' sb wb k la mo { z with p := { z.p with on := false } } (c + 1) ∧ Lst w' v [] := by
  obtain ⟨w1, hw1⟩ : ∃ w1, w1 = W.alloc (.cells #[.int .i64 2, .int .i64 wh, .int .i64 nn, .int .i64 id, .string fl, .int .i64 q, .string t, .slice pa pn pc, .int .i64 mq, .bool r] 47) := ⟨_, rfl⟩
  have x1 := heap_alloc_new W (.cells #[.int .i64 2, .int .i64 wh, .int .i64 nn, .int .i64 id, .string fl, .int .i64 q, .string t, .slice pa pn pc, .int .i64 mq, .bool r] 47)
  have b1 : Below W.heap.size W (W.alloc (.cells #[.int .i64 2, .int .i64 wh, .int .i64 nn, .int .i64 id, .string fl, .int .i64 q, .string t, .slice pa pn pc, .int .i64 mq, .bool r] 47)) := (Below.refl _ _).alloc (Nat.le_refl _) _
  rw [← hw1] at x1 b1
  have hG : ∀ j, G j → j < W.heap.size := fun j hj => by
    obtain ⟨i, _, _, hF⟩ := h.ks.ex
    exact (hF j (.inl hj)).1
  have h1 : SZ G w1 sb wb k la mo z c sv nv := S1.below h b1
  have a0 : w1.cell? ⟨sb, 0, none⟩ = some (.pointer (some ⟨wb, 0, none⟩)) := box_cells h1.ss 0 _ rfl
  have e0 := box_cells x1 0 _ rfl
  have e2 := box_cells x1 2 _ rfl
  have e3 := box_cells x1 3 _ rfl
  have e4 := box_cells x1 4 _ rfl
  have e5 := box_cells x1 5 _ rfl
  have e6 := box_cells x1 6 _ rfl
  have e7 := box_cells x1 7 _ rfl
  have e8 := box_cells x1 8 _ rfl
  have e9 := box_cells x1 9 _ rfl
  have HB := hidi (And.intro b1 hG)
  have HC := hidi (s1_down h1)
  clear h h1 x1 b1 hG
  go_enter Tryz.func8, Tryz.ntmps8
  go_upto_region 1 with fail
  rw [← hw1]
  clear hw1
  go_wp2_with (go_at_call 11; refine HC.out.mono ?_; clear HC; rintro e w2 ⟨rfl, hl⟩)
  have HL := hidi hl
  clear hl
  go_wp2_with fail
  go_ret3
  exact ⟨_, rfl, (Left.pre HB.out.1 HL.out HB.out.2).more, Lst.none _⟩
set_option maxRecDepth 100000 in
set_option maxHeartbeats 4000000 in
theorem does_sub (h : SZ G W sb wb k la mo z c sv nv) (wh nn id : Int) (fl : ByteArray) (q : Int) (t : ByteArray) (pa : Option Addr) (pn pc : Nat) (mq : Int) (r : Bool) (hmo : mo ≤ 65536) (hn : (z.n : Int) ≤ 65536) (hfs : fl.size ≤ 1000000) :
    Calls Tryz.prog 8 #[.pointer (some ⟨sb, 0, none⟩), .agg #[.int .i64 3, .int .i64 wh, .int .i64 nn, .int .i64 id, .string fl, .int .i64 q, .string t, .slice pa pn pc, .int .i64 mq, .bool r]] W fun e w' => ∃ v, e = .returned (.tuple #[v, .bool false, .int .i64 (pSub mo z fl q).2]) ∧ Left G W w' sb wb k la mo (pSub mo z fl q).1 (c + 1) ∧ Lst w' v [] := by
  obtain ⟨w1, hw1⟩ : ∃ w1, w1 = W.alloc (.cells #[.int .i64 3, .int .i64 wh, .int .i64 nn, .int .i64 id, .string fl, .int .i64 q, .string t, .slice pa pn pc, .int .i64 mq, .bool r] 47) := ⟨_, rfl⟩
  have x1 := heap_alloc_new W (.cells #[.int .i64 3, .int .i64 wh, .int .i64 nn, .int .i64 id, .string fl, .int .i64 q, .string t, .slice pa pn pc, .int .i64 mq, .bool r] 47)
  have b1 : Below W.heap.size W (W.alloc (.cells #[.int .i64 3, .int .i64 wh, .int .i64 nn, .int .i64 id, .string fl, .int .i64 q, .string t, .slice pa pn pc, .int .i64 mq, .bool r] 47)) := (Below.refl _ _).alloc (Nat.le_refl _) _
  rw [← hw1] at x1 b1
  have hG : ∀ j, G j → j < W.heap.size := fun j hj => by
    obtain ⟨i, _, _, hF⟩ := h.ks.ex
    exact (hF j (.inl hj)).1
  have h1 : SZ G w1 sb wb k la mo z c sv nv := S1.below h b1
  have a0 : w1.cell? ⟨sb, 0, none⟩ = some (.pointer (some ⟨wb, 0, none⟩)) := box_cells h1.ss 0 _ rfl
  have e0 := box_cells x1 0 _ rfl
  have e2 := box_cells x1 2 _ rfl
  have e3 := box_cells x1 3 _ rfl
  have e4 := box_cells x1 4 _ rfl
  have e5 := box_cells x1 5 _ rfl
  have e6 := box_cells x1 6 _ rfl
  have e7 := box_cells x1 7 _ rfl
  have e8 := box_cells x1 8 _ rfl
  have e9 := box_cells x1 9 _ rfl
  have HB := hidi (And.intro b1 hG)
  have HC := hidi (s1_sub h1 hmo hn fl q hfs)
  clear h h1 x1 b1 hG
  go_enter Tryz.func8, Tryz.ntmps8
  go_upto_region 1 with fail
  rw [← hw1]
  clear hw1
  go_wp2_with (go_at_call 27; refine HC.out.mono ?_; clear HC; rintro e w2 ⟨rfl, hl⟩)
  have HL := hidi hl
  clear hl
  go_wp2_with fail
  go_ret3
  exact ⟨_, rfl, (Left.pre HB.out.1 HL.out HB.out.2).more, Lst.none _⟩
set_option maxRecDepth 100000 in
set_option maxHeartbeats 4000000 in
theorem does_unsub (h : SZ G W sb wb k la mo z c sv nv) (wh nn id : Int) (fl : ByteArray) (q : Int) (t : ByteArray) (pa : Option Addr) (pn pc : Nat) (mq : Int) (r : Bool) (hfs : fl.size ≤ 1000000) :
    Calls Tryz.prog 8 #[.pointer (some ⟨sb, 0, none⟩), .agg #[.int .i64 4, .int .i64 wh, .int .i64 nn, .int .i64 id, .string fl, .int .i64 q, .string t, .slice pa pn pc, .int .i64 mq, .bool r]] W fun e w' => ∃ v, e = .returned (.tuple #[v, .bool (z.f fl).isSome, .int .i64 0]) ∧ Left G W w' sb wb k la mo (pUnsub z fl) (c + 1) ∧ Lst w' v [] := by
  obtain ⟨w1, hw1⟩ : ∃ w1, w1 = W.alloc (.cells #[.int .i64 4, .int .i64 wh, .int .i64 nn, .int .i64 id, .string fl, .int .i64 q, .string t, .slice pa pn pc, .int .i64 mq, .bool r] 47) := ⟨_, rfl⟩
  have x1 := heap_alloc_new W (.cells #[.int .i64 4, .int .i64 wh, .int .i64 nn, .int .i64 id, .string fl, .int .i64 q, .string t, .slice pa pn pc, .int .i64 mq, .bool r] 47)
  have b1 : Below W.heap.size W (W.alloc (.cells #[.int .i64 4, .int .i64 wh, .int .i64 nn, .int .i64 id, .string fl, .int .i64 q, .string t, .slice pa pn pc, .int .i64 mq, .bool r] 47)) := (Below.refl _ _).alloc (Nat.le_refl _) _
  rw [← hw1] at x1 b1
  have hG : ∀ j, G j → j < W.heap.size := fun j hj => by
    obtain ⟨i, _, _, hF⟩ := h.ks.ex
    exact (hF j (.inl hj)).1
  have h1 : SZ G w1 sb wb k la mo z c sv nv := S1.below h b1
  have a0 : w1.cell? ⟨sb, 0, none⟩ = some (.pointer (some ⟨wb, 0, none⟩)) := box_cells h1.ss 0 _ rfl
  have e0 := box_cells x1 0 _ rfl
  have e2 := box_cells x1 2 _ rfl
  have e3 := box_cells x1 3 _ rfl
  have e4 := box_cells x1 4 _ rfl
  have e5 := box_cells x1 5 _ rfl
  have e6 := box_cells x1 6 _ rfl
  have e7 := box_cells x1 7 _ rfl
  have e8 := box_cells x1 8 _ rfl
  have e9 := box_cells x1 9 _ rfl
  have HB := hidi (And.intro b1 hG)
  have HC := hidi (s1_unsub h1 fl hfs)
  clear h h1 x1 b1 hG
  go_enter Tryz.func8, Tryz.ntmps8
  go_upto_region 1 with fail
  rw [← hw1]
  clear hw1
  go_wp2_with (go_at_call 30; refine HC.out.mono ?_; clear HC; rintro e w2 ⟨rfl, hl⟩)
  have HL := hidi hl
  clear hl
  go_wp2_with fail
  go_ret3
  exact ⟨_, rfl, (Left.pre HB.out.1 HL.out HB.out.2).more, Lst.none _⟩
set_option maxRecDepth 100000 in
set_option maxHeartbeats 4000000 in
theorem does_ack (h : SZ G W sb wb k la mo z c sv nv) (wh nn id : Int) (fl : ByteArray) (q : Int) (t : ByteArray) (pa : Option Addr) (pn pc : Nat) (mq : Int) (r : Bool) (hc : c ≤ 200000) (hid : okI id) :
    Calls Tryz.prog 8 #[.pointer (some ⟨sb, 0, none⟩), .agg #[.int .i64 7, .int .i64 wh, .int .i64 nn, .int .i64 id, .string fl, .int .i64 q, .string t, .slice pa pn pc, .int .i64 mq, .bool r]] W fun e w' => ∃ v, e = .returned (.tuple #[v, .bool false, .int .i64 0]) ∧ Left G W w' sb wb k la mo { z with p := (pAck z.p nn id).1 } (c + 1) ∧ Lst w' v (pAck z.p nn id).2 := by
  obtain ⟨w1, hw1⟩ : ∃ w1, w1 = W.alloc (.cells #[.int .i64 7, .int .i64 wh, .int .i64 nn, .int .i64 id, .string fl, .int .i64 q, .string t, .slice pa pn pc, .int .i64 mq, .bool r] 47) := ⟨_, rfl⟩
  have x1 := heap_alloc_new W (.cells #[.int .i64 7, .int .i64 wh, .int .i64 nn, .int .i64 id, .string fl, .int .i64 q, .string t, .slice pa pn pc, .int .i64 mq, .bool r] 47)
  have b1 : Below W.heap.size W (W.alloc (.cells #[.int .i64 7, .int .i64 wh, .int .i64 nn, .int .i64 id, .string fl, .int .i64 q, .string t, .slice pa pn pc, .int .i64 mq, .bool r] 47)) := (Below.refl _ _).alloc (Nat.le_refl _) _
  rw [← hw1] at x1 b1
  have hG : ∀ j, G j → j < W.heap.size := fun j hj => by
    obtain ⟨i, _, _, hF⟩ := h.ks.ex
    exact (hF j (.inl hj)).1
  have h1 : SZ G w1 sb wb k la mo z c sv nv := S1.below h b1
  have a0 : w1.cell? ⟨sb, 0, none⟩ = some (.pointer (some ⟨wb, 0, none⟩)) := box_cells h1.ss 0 _ rfl
  have e0 := box_cells x1 0 _ rfl
  have e2 := box_cells x1 2 _ rfl
  have e3 := box_cells x1 3 _ rfl
  have e4 := box_cells x1 4 _ rfl
  have e5 := box_cells x1 5 _ rfl
  have e6 := box_cells x1 6 _ rfl
  have e7 := box_cells x1 7 _ rfl
  have e8 := box_cells x1 8 _ rfl
  have e9 := box_cells x1 9 _ rfl
  have HB := hidi (And.intro b1 hG)
  have X1 := hidi (show w1.drew.heap[W.heap.size]? = _ from x1)
  have h1d : SZ G w1.drew sb wb k la mo z c sv nv := S1.below h1 (Below.refl _ _).drew
  have HC := hidi (s1_ack h1d hc nn id hid)
  have HB := hidi (And.intro b1.drew hG)
  clear h h1 h1d x1 b1 hG
  go_enter Tryz.func8, Tryz.ntmps8
  go_upto_region 1 with fail
  rw [← hw1]
  clear hw1
  go_upto_region 14 with fail
  refine wp_region_held_drew (S := fun w' => w'.cell? ⟨sb, 0, none⟩ = some (.pointer (some ⟨wb, 0, none⟩)) ∧ w'.cell? ⟨W.heap.size, 2, none⟩ = some (.int .i64 nn) ∧ w'.cell? ⟨W.heap.size, 3, none⟩ = some (.int .i64 id)) (by kernel_rfl) ⟨a0, e2, e3⟩ (fun hHeld => ?_)
  change wpAnyH _ _ _ _ _ 12 #[false, false, false, false, false, false, false, false, false, false, false, false] _ (World.drew _)
  refine wpAnyH_take (i := 0) (oi := { dst := some 51, op := Go.Op.move (Go.Operand.tmp 0), type := 36, pos := "outright.go:51", after := #[], guard := none }) (v := .pointer (some ⟨sb, 0, none⟩)) rfl (by kernel_rfl) (by kernel_rfl) (by kernel_rfl) (fun _ _ _ h => h) (Or.inl ⟨by kernel_rfl, by intro wq hSw; (try dsimp only at hSw); clear hHeld; go_simp⟩) hHeld ?_
  simp only [Act.put, List.setIfInBounds_toArray, List.set_cons_zero, List.set_cons_succ]
  refine wpAnyH_take (i := 1) (oi := { dst := some 52, op := Go.Op.nilCheck (Go.Operand.tmp 51), type := 0, pos := "outright.go:51", after := #[{ on := 0, ground := Go.Ground.data }], guard := none }) (v := .pointer (some ⟨sb, 0, none⟩)) rfl (by kernel_rfl) (by kernel_rfl) (by kernel_rfl) (fun _ _ _ h => h) (Or.inl ⟨by kernel_rfl, by intro wq hSw; (try dsimp only at hSw); clear hHeld; go_simp⟩) hHeld ?_
  simp only [Act.put, List.setIfInBounds_toArray, List.set_cons_zero, List.set_cons_succ]
  refine wpAnyH_take (i := 2) (oi := { dst := some 53, op := Go.Op.fieldAddr 56 (Go.Operand.tmp 52) 0, type := 0, pos := "outright.go:51", after := #[{ on := 1, ground := Go.Ground.data }], guard := none }) (v := .pointer (some ⟨sb, 0, none⟩)) rfl (by kernel_rfl) (by kernel_rfl) (by kernel_rfl) (fun _ _ _ h => h) (Or.inl ⟨by kernel_rfl, by intro wq hSw; (try dsimp only at hSw); clear hHeld; go_simp⟩) hHeld ?_
  simp only [Act.put, List.setIfInBounds_toArray, List.set_cons_zero, List.set_cons_succ]
  refine wpAnyH_take (i := 3) (oi := { dst := some 54, op := Go.Op.load 52 (Go.Operand.tmp 53), type := 52, pos := "outright.go:51", after := #[{ on := 2, ground := Go.Ground.data }], guard := none }) (v := .pointer (some ⟨wb, 0, none⟩)) rfl (by kernel_rfl) (by kernel_rfl) (by kernel_rfl) (fun _ _ _ h => h) (Or.inl ⟨by kernel_rfl, by intro wq hSw; (try dsimp only at hSw); clear hHeld; go_simp⟩) hHeld ?_
  simp only [Act.put, List.setIfInBounds_toArray, List.set_cons_zero, List.set_cons_succ]
  refine wpAnyH_take (i := 4) (oi := { dst := some 55, op := Go.Op.fieldAddr 47 (Go.Operand.tmp 3) 2, type := 0, pos := "outright.go:51", after := #[], guard := none }) (v := .pointer (some ⟨W.heap.size, 2, none⟩)) rfl (by kernel_rfl) (by kernel_rfl) (by kernel_rfl) (fun _ _ _ h => h) (Or.inl ⟨by kernel_rfl, by intro wq hSw; (try dsimp only at hSw); clear hHeld; go_simp⟩) hHeld ?_
  simp only [Act.put, List.setIfInBounds_toArray, List.set_cons_zero, List.set_cons_succ]
  refine wpAnyH_take (i := 5) (oi := { dst := some 56, op := Go.Op.load 3 (Go.Operand.tmp 55), type := 3, pos := "outright.go:51", after := #[{ on := 4, ground := Go.Ground.data }], guard := none }) (v := .int .i64 nn) rfl (by kernel_rfl) (by kernel_rfl) (by kernel_rfl) (fun _ _ _ h => h) (Or.inl ⟨by kernel_rfl, by intro wq hSw; (try dsimp only at hSw); clear hHeld; go_simp⟩) hHeld ?_
  simp only [Act.put, List.setIfInBounds_toArray, List.set_cons_zero, List.set_cons_succ]
  refine wpAnyH_take (i := 6) (oi := { dst := some 57, op := Go.Op.fieldAddr 47 (Go.Operand.tmp 3) 3, type := 0, pos := "outright.go:51", after := #[], guard := none }) (v := .pointer (some ⟨W.heap.size, 3, none⟩)) rfl (by kernel_rfl) (by kernel_rfl) (by kernel_rfl) (fun _ _ _ h => h) (Or.inl ⟨by kernel_rfl, by intro wq hSw; (try dsimp only at hSw); clear hHeld; go_simp⟩) hHeld ?_
  simp only [Act.put, List.setIfInBounds_toArray, List.set_cons_zero, List.set_cons_succ]
  refine wpAnyH_take (i := 7) (oi := { dst := some 58, op := Go.Op.load 3 (Go.Operand.tmp 57), type := 3, pos := "outright.go:51", after := #[{ on := 6, ground := Go.Ground.data }], guard := none }) (v := .int .i64 id) rfl (by kernel_rfl) (by kernel_rfl) (by kernel_rfl) (fun _ _ _ h => h) (Or.inl ⟨by kernel_rfl, by intro wq hSw; (try dsimp only at hSw); clear hHeld; go_simp⟩) hHeld ?_
  simp only [Act.put, List.setIfInBounds_toArray, List.set_cons_zero, List.set_cons_succ]
  refine wpAnyH_ready (rs := [8]) (by kernel_rfl) (by simp) ?_
  refine AllReadyH.cons (o := { dst := some 59, op := Go.Op.call { callee := Go.Callee.value (Go.Operand.func 17), args := #[Go.Operand.tmp 54, Go.Operand.tmp 56, Go.Operand.tmp 58], argTypes := #[52, 3, 3] }, type := 38, pos := "outright.go:51", after := #[{ on := 3, ground := Go.Ground.data }, { on := 5, ground := Go.Ground.data }, { on := 7, ground := Go.Ground.data }], guard := none }) (by rfl) (fun K hK => ?_) AllReadyH.nil
  go_simp
  go_wp2_with (go_at_call 17; refine (HC.out).mono ?_; rintro e w2 ⟨v', rfl, hl, l⟩)
  obtain ⟨va, vn, vc, rfl⟩ : ∃ a n c, v' = .slice a n c := by obtain ⟨S, ho, _⟩ := l; obtain ⟨a, c, e⟩ := own_sl ho; exact ⟨a, _, c, e⟩
  have HL := hidi (And.intro hl l)
  clear hl l a0 e2 e3 hHeld
  obtain ⟨sv2, nv2, s2, fr2, kq2⟩ := HL.out.1
  have a0 : w2.cell? ⟨sb, 0, none⟩ = some (.pointer (some ⟨wb, 0, none⟩)) := box_cells s2.ss 0 _ rfl
  have x2 := kq2 _ _ _ _ X1.out (by decide) (by decide) (by decide) (by decide)
  have e2 := box_cells x2 2 _ rfl
  have e3 := box_cells x2 3 _ rfl
  clear s2 fr2 kq2 x2
  refine hK.out _ _ ⟨a0, e2, e3⟩ (fun hHeld => ?_)
  clear hK K
  (try simp only [Act.put, List.setIfInBounds_toArray, List.set_cons_zero, List.set_cons_succ])
  refine wpAnyH_take (i := 9) (oi := { dst := some 4, op := Go.Op.assign (Go.Operand.tmp 59), type := 38, pos := "outright.go:51", after := #[{ on := 8, ground := Go.Ground.data }, { on := 8, ground := Go.Ground.chain }, { on := 0, ground := Go.Ground.phase }, { on := 1, ground := Go.Ground.phase }, { on := 2, ground := Go.Ground.phase }, { on := 3, ground := Go.Ground.phase }, { on := 4, ground := Go.Ground.phase }, { on := 5, ground := Go.Ground.phase }, { on := 6, ground := Go.Ground.phase }, { on := 7, ground := Go.Ground.phase }, { on := 8, ground := Go.Ground.phase }], guard := none }) (v := .slice va vn vc) rfl (by kernel_rfl) (by kernel_rfl) (by kernel_rfl) (fun _ _ _ h => h) (Or.inl ⟨by kernel_rfl, by intro wq hSw; (try dsimp only at hSw); clear hHeld; go_simp⟩) hHeld ?_
  simp only [Act.put, List.setIfInBounds_toArray, List.set_cons_zero, List.set_cons_succ]
  refine wpAnyH_take (i := 10) (oi := { dst := some 5, op := Go.Op.assign (Go.Operand.const (Go.Value.bool false)), type := 4, pos := "outright.go:51", after := #[{ on := 9, ground := Go.Ground.chain }, { on := 0, ground := Go.Ground.phase }, { on := 1, ground := Go.Ground.phase }, { on := 2, ground := Go.Ground.phase }, { on := 3, ground := Go.Ground.phase }, { on := 4, ground := Go.Ground.phase }, { on := 5, ground := Go.Ground.phase }, { on := 6, ground := Go.Ground.phase }, { on := 7, ground := Go.Ground.phase }, { on := 8, ground := Go.Ground.phase }, { on := 9, ground := Go.Ground.phase }], guard := none }) (v := .bool false) rfl (by kernel_rfl) (by kernel_rfl) (by kernel_rfl) (fun _ _ _ h => h) (Or.inl ⟨by kernel_rfl, by intro wq hSw; (try dsimp only at hSw); clear hHeld; go_simp⟩) hHeld ?_
  simp only [Act.put, List.setIfInBounds_toArray, List.set_cons_zero, List.set_cons_succ]
  refine wpAnyH_take (i := 11) (oi := { dst := some 6, op := Go.Op.assign (Go.Operand.const (Go.Value.int Go.IntKind.i64 0)), type := 3, pos := "outright.go:51", after := #[{ on := 10, ground := Go.Ground.chain }, { on := 0, ground := Go.Ground.phase }, { on := 1, ground := Go.Ground.phase }, { on := 2, ground := Go.Ground.phase }, { on := 3, ground := Go.Ground.phase }, { on := 4, ground := Go.Ground.phase }, { on := 5, ground := Go.Ground.phase }, { on := 6, ground := Go.Ground.phase }, { on := 7, ground := Go.Ground.phase }, { on := 8, ground := Go.Ground.phase }, { on := 9, ground := Go.Ground.phase }, { on := 10, ground := Go.Ground.phase }], guard := none }) (v := .int .i64 0) rfl (by kernel_rfl) (by kernel_rfl) (by kernel_rfl) (fun _ _ _ h => h) (Or.inl ⟨by kernel_rfl, by intro wq hSw; (try dsimp only at hSw); clear hHeld; go_simp⟩) hHeld ?_
  simp only [Act.put, List.setIfInBounds_toArray, List.set_cons_zero, List.set_cons_succ]
  refine wpAnyH_done (by kernel_rfl) ?_ _
  go_wp2_with fail
  go_ret3
  exact ⟨_, rfl, (Left.pre HB.out.1 HL.out.1 HB.out.2).more, HL.out.2⟩
set_option maxRecDepth 100000 in
set_option maxHeartbeats 4000000 in
theorem does_note (h : SZ G W sb wb k la mo z c sv nv) (wh nn id : Int) (fl : ByteArray) (q : Int) (t : ByteArray) (pa : Option Addr) (pn pc : Nat) (mq : Int) (r : Bool) (hid : okI id) (hm : z.m < 1000000) :
    Calls Tryz.prog 8 #[.pointer (some ⟨sb, 0, none⟩), .agg #[.int .i64 8, .int .i64 wh, .int .i64 nn, .int .i64 id, .string fl, .int .i64 q, .string t, .slice pa pn pc, .int .i64 mq, .bool r]] W fun e w' => ∃ v, e = .returned (.tuple #[v, .bool (pNote z id).2, .int .i64 0]) ∧ Left G W w' sb wb k la mo (pNote z id).1 (c + 1) ∧ Lst w' v [] := by
  obtain ⟨w1, hw1⟩ : ∃ w1, w1 = W.alloc (.cells #[.int .i64 8, .int .i64 wh, .int .i64 nn, .int .i64 id, .string fl, .int .i64 q, .string t, .slice pa pn pc, .int .i64 mq, .bool r] 47) := ⟨_, rfl⟩
  have x1 := heap_alloc_new W (.cells #[.int .i64 8, .int .i64 wh, .int .i64 nn, .int .i64 id, .string fl, .int .i64 q, .string t, .slice pa pn pc, .int .i64 mq, .bool r] 47)
  have b1 : Below W.heap.size W (W.alloc (.cells #[.int .i64 8, .int .i64 wh, .int .i64 nn, .int .i64 id, .string fl, .int .i64 q, .string t, .slice pa pn pc, .int .i64 mq, .bool r] 47)) := (Below.refl _ _).alloc (Nat.le_refl _) _
  rw [← hw1] at x1 b1
  have hG : ∀ j, G j → j < W.heap.size := fun j hj => by
    obtain ⟨i, _, _, hF⟩ := h.ks.ex
    exact (hF j (.inl hj)).1
  have h1 : SZ G w1 sb wb k la mo z c sv nv := S1.below h b1
  have a0 : w1.cell? ⟨sb, 0, none⟩ = some (.pointer (some ⟨wb, 0, none⟩)) := box_cells h1.ss 0 _ rfl
  have e0 := box_cells x1 0 _ rfl
  have e2 := box_cells x1 2 _ rfl
  have e3 := box_cells x1 3 _ rfl
  have e4 := box_cells x1 4 _ rfl
  have e5 := box_cells x1 5 _ rfl
  have e6 := box_cells x1 6 _ rfl
  have e7 := box_cells x1 7 _ rfl
  have e8 := box_cells x1 8 _ rfl
  have e9 := box_cells x1 9 _ rfl
  have HB := hidi (And.intro b1 hG)
  have HC := hidi (s1_note h1 id hid hm)
  clear h h1 x1 b1 hG
  go_enter Tryz.func8, Tryz.ntmps8
  go_upto_region 1 with fail
  rw [← hw1]
  clear hw1
  go_wp2_with (go_at_call 31; refine HC.out.mono ?_; clear HC; rintro e w2 ⟨rfl, hl⟩)
  have HL := hidi hl
  clear hl
  go_wp2_with fail
  go_ret3
  exact ⟨_, rfl, (Left.pre HB.out.1 HL.out HB.out.2).more, Lst.none _⟩
set_option maxRecDepth 100000 in
set_option maxHeartbeats 4000000 in
theorem does_rel (h : SZ G W sb wb k la mo z c sv nv) (wh nn id : Int) (fl : ByteArray) (q : Int) (t : ByteArray) (pa : Option Addr) (pn pc : Nat) (mq : Int) (r : Bool) (hid : okI id) :
    Calls Tryz.prog 8 #[.pointer (some ⟨sb, 0, none⟩), .agg #[.int .i64 9, .int .i64 wh, .int .i64 nn, .int .i64 id, .string fl, .int .i64 q, .string t, .slice pa pn pc, .int .i64 mq, .bool r]] W fun e w' => ∃ v, e = .returned (.tuple #[v, .bool (z.g id).isSome, .int .i64 0]) ∧ Left G W w' sb wb k la mo (pRel z id) (c + 1) ∧ Lst w' v [] := by
  obtain ⟨w1, hw1⟩ : ∃ w1, w1 = W.alloc (.cells #[.int .i64 9, .int .i64 wh, .int .i64 nn, .int .i64 id, .string fl, .int .i64 q, .string t, .slice pa pn pc, .int .i64 mq, .bool r] 47) := ⟨_, rfl⟩
  have x1 := heap_alloc_new W (.cells #[.int .i64 9, .int .i64 wh, .int .i64 nn, .int .i64 id, .string fl, .int .i64 q, .string t, .slice pa pn pc, .int .i64 mq, .bool r] 47)
  have b1 : Below W.heap.size W (W.alloc (.cells #[.int .i64 9, .int .i64 wh, .int .i64 nn, .int .i64 id, .string fl, .int .i64 q, .string t, .slice pa pn pc, .int .i64 mq, .bool r] 47)) := (Below.refl _ _).alloc (Nat.le_refl _) _
  rw [← hw1] at x1 b1
  have hG : ∀ j, G j → j < W.heap.size := fun j hj => by
    obtain ⟨i, _, _, hF⟩ := h.ks.ex
    exact (hF j (.inl hj)).1
  have h1 : SZ G w1 sb wb k la mo z c sv nv := S1.below h b1
  have a0 : w1.cell? ⟨sb, 0, none⟩ = some (.pointer (some ⟨wb, 0, none⟩)) := box_cells h1.ss 0 _ rfl
  have e0 := box_cells x1 0 _ rfl
  have e2 := box_cells x1 2 _ rfl
  have e3 := box_cells x1 3 _ rfl
  have e4 := box_cells x1 4 _ rfl
  have e5 := box_cells x1 5 _ rfl
  have e6 := box_cells x1 6 _ rfl
  have e7 := box_cells x1 7 _ rfl
  have e8 := box_cells x1 8 _ rfl
  have e9 := box_cells x1 9 _ rfl
  have HB := hidi (And.intro b1 hG)
  have HC := hidi (s1_release h1 id hid)
  clear h h1 x1 b1 hG
  go_enter Tryz.func8, Tryz.ntmps8
  go_upto_region 1 with fail
  rw [← hw1]
  clear hw1
  go_wp2_with (go_at_call 32; refine HC.out.mono ?_; clear HC; rintro e w2 ⟨rfl, hl⟩)
  have HL := hidi hl
  clear hl
  go_wp2_with fail
  go_ret3
  exact ⟨_, rfl, (Left.pre HB.out.1 HL.out HB.out.2).more, Lst.none _⟩
set_option maxRecDepth 100000 in
set_option maxHeartbeats 4000000 in
theorem does_del (h : SZ G W sb wb k la mo z c sv nv) (wh nn id : Int) (fl : ByteArray) (q : Int) (t : ByteArray) (pa : Option Addr) (pn pc : Nat) (mq : Int) (r : Bool) (hc : c + 1 ≤ 200000) (xs : List Int) (hp : PBi W (.slice pa pn pc) xs) (ht : t.size ≤ 1000000) :
    Calls Tryz.prog 8 #[.pointer (some ⟨sb, 0, none⟩), .agg #[.int .i64 6, .int .i64 wh, .int .i64 nn, .int .i64 id, .string fl, .int .i64 q, .string t, .slice pa pn pc, .int .i64 mq, .bool r]] W fun e w' => ∃ v, e = .returned (.tuple #[v, .bool (pDel z ⟨t, mq, r, xs⟩).2.2, .int .i64 0]) ∧ Left G W w' sb wb k la mo (pDel z ⟨t, mq, r, xs⟩).1 (c + 1) ∧ Lst w' v (pDel z ⟨t, mq, r, xs⟩).2.1 := by
  obtain ⟨w1, hw1⟩ : ∃ w1, w1 = W.alloc (.cells #[.int .i64 6, .int .i64 wh, .int .i64 nn, .int .i64 id, .string fl, .int .i64 q, .string t, .slice pa pn pc, .int .i64 mq, .bool r] 47) := ⟨_, rfl⟩
  have x1 := heap_alloc_new W (.cells #[.int .i64 6, .int .i64 wh, .int .i64 nn, .int .i64 id, .string fl, .int .i64 q, .string t, .slice pa pn pc, .int .i64 mq, .bool r] 47)
  have b1 : Below W.heap.size W (W.alloc (.cells #[.int .i64 6, .int .i64 wh, .int .i64 nn, .int .i64 id, .string fl, .int .i64 q, .string t, .slice pa pn pc, .int .i64 mq, .bool r] 47)) := (Below.refl _ _).alloc (Nat.le_refl _) _
  rw [← hw1] at x1 b1
  have hG : ∀ j, G j → j < W.heap.size := fun j hj => by
    obtain ⟨i, _, _, hF⟩ := h.ks.ex
    exact (hF j (.inl hj)).1
  have h1 : SZ G w1 sb wb k la mo z c sv nv := S1.below h b1
  have a0 : w1.cell? ⟨sb, 0, none⟩ = some (.pointer (some ⟨wb, 0, none⟩)) := box_cells h1.ss 0 _ rfl
  have e0 := box_cells x1 0 _ rfl
  have e2 := box_cells x1 2 _ rfl
  have e3 := box_cells x1 3 _ rfl
  have e4 := box_cells x1 4 _ rfl
  have e5 := box_cells x1 5 _ rfl
  have e6 := box_cells x1 6 _ rfl
  have e7 := box_cells x1 7 _ rfl
  have e8 := box_cells x1 8 _ rfl
  have e9 := box_cells x1 9 _ rfl
  have HB := hidi (And.intro b1 hG)
  have HC := hidi (s1_deliver h1 hc t (.slice pa pn pc) mq r xs (hp.below b1) ht)
  clear h h1 x1 b1 hG
  go_enter Tryz.func8, Tryz.ntmps8
  go_upto_region 1 with fail
  rw [← hw1]
  clear hw1
  go_wp2_with (go_at_call 16; refine HC.out.mono ?_; clear HC; rintro e w2 ⟨v', rfl, hl, l⟩)
  obtain ⟨va, vn, vc, rfl⟩ : ∃ a n c, v' = .slice a n c := by obtain ⟨S, ho, _⟩ := l; obtain ⟨a, c, e⟩ := own_sl ho; exact ⟨a, _, c, e⟩
  have HL := hidi (And.intro hl l)
  clear hl l
  go_wp2_with fail
  go_ret3
  exact ⟨_, rfl, Left.pre HB.out.1 HL.out.1 HB.out.2, HL.out.2⟩
set_option maxRecDepth 100000 in
set_option maxHeartbeats 4000000 in
theorem does_no (h : SZ G W sb wb k la mo z c sv nv) (kd : Int) (wh nn id : Int) (fl : ByteArray) (q : Int) (t : ByteArray) (pa : Option Addr) (pn pc : Nat) (mq : Int) (r : Bool) (h1k : kd ≠ 1) (h2k : kd ≠ 2) (h3k : kd ≠ 3) (h4k : kd ≠ 4) (h6k : kd ≠ 6) (h7k : kd ≠ 7) (h8k : kd ≠ 8) (h9k : kd ≠ 9) :
    Calls Tryz.prog 8 #[.pointer (some ⟨sb, 0, none⟩), .agg #[.int .i64 kd, .int .i64 wh, .int .i64 nn, .int .i64 id, .string fl, .int .i64 q, .string t, .slice pa pn pc, .int .i64 mq, .bool r]] W fun e w' => ∃ v, e = .returned (.tuple #[v, .bool false, .int .i64 0]) ∧ Left G W w' sb wb k la mo z (c + 1) ∧ Lst w' v [] := by
  obtain ⟨w1, hw1⟩ : ∃ w1, w1 = W.alloc (.cells #[.int .i64 kd, .int .i64 wh, .int .i64 nn, .int .i64 id, .string fl, .int .i64 q, .string t, .slice pa pn pc, .int .i64 mq, .bool r] 47) := ⟨_, rfl⟩
  have x1 := heap_alloc_new W (.cells #[.int .i64 kd, .int .i64 wh, .int .i64 nn, .int .i64 id, .string fl, .int .i64 q, .string t, .slice pa pn pc, .int .i64 mq, .bool r] 47)
  have b1 : Below W.heap.size W (W.alloc (.cells #[.int .i64 kd, .int .i64 wh, .int .i64 nn, .int .i64 id, .string fl, .int .i64 q, .string t, .slice pa pn pc, .int .i64 mq, .bool r] 47)) := (Below.refl _ _).alloc (Nat.le_refl _) _
  rw [← hw1] at x1 b1
  have hG : ∀ j, G j → j < W.heap.size := fun j hj => by
    obtain ⟨i, _, _, hF⟩ := h.ks.ex
    exact (hF j (.inl hj)).1
  have h1 : SZ G w1 sb wb k la mo z c sv nv := S1.below h b1
  have a0 : w1.cell? ⟨sb, 0, none⟩ = some (.pointer (some ⟨wb, 0, none⟩)) := box_cells h1.ss 0 _ rfl
  have e0 := box_cells x1 0 _ rfl
  have e2 := box_cells x1 2 _ rfl
  have e3 := box_cells x1 3 _ rfl
  have e4 := box_cells x1 4 _ rfl
  have e5 := box_cells x1 5 _ rfl
  have e6 := box_cells x1 6 _ rfl
  have e7 := box_cells x1 7 _ rfl
  have e8 := box_cells x1 8 _ rfl
  have e9 := box_cells x1 9 _ rfl
  have HB := hidi (And.intro b1 hG)
  have HC := hidi (Left.same h b1)
  have k1 : (kd == 1) = false := by simpa using h1k
  have k2 : (kd == 2) = false := by simpa using h2k
  have k3 : (kd == 3) = false := by simpa using h3k
  have k4 : (kd == 4) = false := by simpa using h4k
  have k6 : (kd == 6) = false := by simpa using h6k
  have k7 : (kd == 7) = false := by simpa using h7k
  have k8 : (kd == 8) = false := by simpa using h8k
  have k9 : (kd == 9) = false := by simpa using h9k
  clear h h1 x1 b1 hG
  go_enter Tryz.func8, Tryz.ntmps8
  go_upto_region 1 with fail
  rw [← hw1]
  clear hw1
  go_wp2_with fail
  go_ret3
  exact ⟨_, rfl, HC.out.more, Lst.none _⟩
end
end Go.Proofs.YtmihpmmkkklpfaaGreatDoor
namespace Go.Proofs.YtmihpmmkkklpfaaGreatDoor
open Go Go.RowKit Go.Shelf Go.Maps Go.Sort
set_option linter.unusedSimpArgs false
set_option linter.unusedVariables false
/-! ### hear -/
theorem prow_at (S : List Pq) (i : Nat) (hi : i < S.length) (c : Nat) (hc : c < 25) : (prow S)[i * 25 + c]? = S[i].cs[c]? := by
  induction S generalizing i with
  | nil => simp at hi
  | cons x S ih =>
    have e : prow (x :: S) = x.cs.toList ++ prow S := rfl
    have hl : x.cs.toList.length = 25 := rfl
    cases i with
    | zero =>
      rw [e, List.getElem?_append_left (by rw [hl]; omega)]
      simp
    | succ i =>
      have h := ih i (by simpa using hi)
      rw [e, List.getElem?_append_right (by rw [hl]; omega), hl, show (i + 1) * 25 + c - 25 = i * 25 + c by omega]
      simpa using h
theorem prow_cell {w : World} {B k : Nat} {v : Value} {S : List Pq} (h : w.ownsRow B 66 25 v k (prow S)) {j : Nat} (hj : j < k) (hl : j < S.length) : ∃ g c, v = .slice (some ⟨g, 0, none⟩) k c ∧ ∀ x, x < 25 → w.cell? ⟨g, j * 25 + x, none⟩ = S[j].cs[x]? := by
  rcases h.2 with ⟨_, h2⟩ | ⟨g, cap, cur, h1, h2, h3, h4, h5, h6, h7⟩
  · omega
  · refine ⟨g, cap, h1, fun x hx => ?_⟩
    rw [← prow_at S j hl x hx, ← h7]
    have : j * 25 + x < k * 25 := by omega
    simp [List.getElem?_take, this, World.cell?, h3]
def newQ (p : Pq) : Bool := decide (p.k = 3) && !p.d
def newMs (S : List Pq) : List Ms := (S.filter newQ).map (·.m)
structure HeI (W wx : World) (sbx : Nat) (sv lv : Value) (MS : List Ms) (S : List Pq) : Prop where
  own : wx.ownsRow 0 45 4 lv (MS ++ newMs S).length (mrow (MS ++ newMs S))
  box : wx.heap[sbx]? = some (.cells #[lv] 29 (0, 0))
  ch : Ch (fun j => j = sbx ∨ sv.ownBlock = some j) W wx
  nb : ∀ g, lv.ownBlock = some g → sv.ownBlock = some g ∨ W.heap.size ≤ g
theorem newMs_snoc_yes {S : List Pq} {p : Pq} (h : newQ p = true) : newMs (S ++ [p]) = newMs S ++ [p.m] := by simp [newMs, h]
theorem HeI.arm {W wr : World} {sbx : Nat} {sv lv : Value} {MS : List Ms} {S : List Pq} (h : HeI W wr sbx sv lv MS S) (p : Pq) (hq : newQ p = true) (hv : ∃ a k c, p.m.v = .slice a k c) (hl : (MS ++ newMs S).length ≤ 1000000) :
    ∃ g' cap' w2, (Builtin.append_ #[29, 29] 29 #[lv, .slice (some ⟨wr.heap.size, 0, none⟩) 1 1]).run Tryz.prog (wr.drew.alloc (.cells #[.string p.m.t, p.m.v, .int .i64 p.m.q, .bool p.m.r] 45)) = .ok (.slice (some ⟨g', 0, none⟩) ((MS ++ newMs S).length + 1) cap') w2 ∧ w2.cell? ⟨sbx, 0, none⟩ = some lv ∧ w2.frozen? ⟨sbx, 0, none⟩ = false ∧ HeI W (w2.setCell ⟨sbx, 0, none⟩ (.slice (some ⟨g', 0, none⟩) ((MS ++ newMs S).length + 1) cap')) sbx sv (.slice (some ⟨g', 0, none⟩) ((MS ++ newMs S).length + 1) cap') MS (S ++ [p]) := by
  obtain ⟨pa, pk, pc, hv⟩ := hv
  obtain ⟨g', cap', w2, k1, k2, k3, k4⟩ := app_gen (w := wr.drew) (st := 29) (e := 45) (cs := #[.string p.m.t, p.m.v, .int .i64 p.m.q, .bool p.m.r]) Tryz.underlying29 info30 rfl (by omega) (by omega) h.own rfl (by rw [hv]; simp [Value.oneCell']) hl
  have hbl : sbx < wr.heap.size := (Array.getElem?_eq_some_iff.1 h.box).1
  have hne : lv.ownBlock ≠ some sbx := fun e => by obtain ⟨cur, z⟩ := own_lt h.own e; rw [h.box] at z; simp at z
  have hb2 : w2.heap[sbx]? = some (.cells #[lv] 29 (0, 0)) := (k3.block sbx hbl hne).trans h.box
  have hgs : g' ≠ sbx := fun e => by obtain ⟨cur, z⟩ := own_lt k2 (g := g') rfl; rw [e, hb2] at z; simp at z
  refine ⟨g', cap', w2, k1, box_cells hb2 0 _ rfl, box_frozen hb2 0, ⟨?_, ?_, ?_, ?_⟩⟩
  · have e : (MS ++ newMs S ++ [p.m]).length = (MS ++ newMs S).length + 1 := by rw [List.length_append, List.length_singleton]
    rw [newMs_snoc_yes hq, ← List.append_assoc, mrow_snoc, e]
    exact own_ch k2 (ch_set sbx 0 _) (fun g hg => by simp [Value.ownBlock] at hg; subst hg; exact hgs)
  · rw [heap_set hb2]
    rfl
  · refine ((h.ch.trans (ch_drew (fun _ => False) wr) (fun j _ q => q.elim)).trans k3 (fun j hj q => ?_)).trans (ch_set sbx 0 _) (fun j _ q => .inl q)
    rcases h.nb j q with z | z
    · exact .inr z
    · omega
  · intro g hg
    simp [Value.ownBlock] at hg
    subst hg
    rcases k4 with z | z
    · exact h.nb _ z
    · exact .inr (Nat.le_trans h.ch.size z)
end Go.Proofs.YtmihpmmkkklpfaaGreatDoor
