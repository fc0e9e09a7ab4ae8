import Derived.Test.YtbjhblnagmpnfaaDoorOt
import Derived.Test.YtbjhblnagmpnfaaDoorOu
namespace Go.Proofs.YtbjhblnagmpnfaaDoor
open Go Go.RowKit Go.Shelf Go.Maps Go.Sort
set_option linter.unusedSimpArgs false
set_option linter.unusedVariables false
/-! ### play -/
def ixN (n : Int) (L : Nat) : Nat := (Int.tmod (Int.tmod n L + L) L).toNat
noncomputable def pNine (p : Pw) (a n : Int) : Pw × List Pp := match p.fl[ixN n p.fl.length]? with | some f => pAck p a f.id | none => (p, [])
noncomputable def pPlay (p : Pw) (k : Int) (m : Mp) (a n : Int) : Pw × List Pp :=
  if k = 1 then ((pSend p m).1, (pSend p m).2.1) else if k = 2 then pAck p a n else if k = 3 then pUp p else if k = 4 then ({ p with on := false }, []) else if k = 5 then ((pReserve p).1, []) else if k = 6 then ((pFree p n).1, []) else if k = 9 then pNine p a n else (p, [])
theorem Out.more {w w' : World} {wb : Nat} {i : WI} {c c' : Nat} {P : Pw} {X : List Pp} {v : Value} (h : Out w w' wb i c P X v) (hc : c ≤ c') : Out w w' wb i c' P X v := by
  obtain ⟨i', S, s, r⟩ := h.ex
  exact ⟨⟨i', S, ⟨s.ws.more hc, s.ch, s.bl⟩, r⟩, h.gd⟩
theorem St.more {w w' : World} {wb : Nat} {i i' : WI} {c c' : Nat} (s : St w w' wb i i' c) (hc : c ≤ c') : St w w' wb i i' c' := ⟨s.ws.more hc, s.ch, s.bl⟩
theorem St.out {w w' : World} {wb : Nat} {i i' : WI} {c : Nat} {P : Pw} (s : St w w' wb i i' c) (g : Gd w') (e : i'.p = P) : Out w w' wb i c P [] (.slice none 0 0) := ⟨⟨i', [], s, World.ownsRow_nil _ _ _ _, by simp, e, rfl⟩, g⟩
set_option maxRecDepth 100000 in
set_option maxHeartbeats 4000000 in
theorem play_send {w : World} {wb : Nat} {i : WI} {c : Nat} {s : Bool} {t : ByteArray} {pa : Option Addr} {pn pc : Nat} {q : Int} {r : Bool} {xs : List Int} {a n : Int} (h : WS w wb i c) (g : Gd w) (hc : c + 1 ≤ 200000) (hp : PBi w (.slice pa pn pc) xs) (ht : t.size ≤ 1000000) (ha : okI a) (hn : okI n) :
    Calls Tryd.prog 11 #[.pointer (some ⟨wb, 0, none⟩), .agg #[.int .i64 1, .bool s, .string t, .slice pa pn pc, .int .i64 q, .bool r, .int .i64 a, .int .i64 n]] w fun e w' => ∃ v, e = .returned v ∧ Out w w' wb i (c + 1) (pPlay i.p 1 ⟨t, q, r, xs⟩ a n).1 (pPlay i.p 1 ⟨t, q, r, xs⟩ a n).2 v := by
  have hP : pPlay i.p 1 ⟨t, q, r, xs⟩ a n = ((pSend i.p ⟨t, q, r, xs⟩).1, (pSend i.p ⟨t, q, r, xs⟩).2.1) := by
    unfold pPlay
    simp
  obtain ⟨P, hPP⟩ : ∃ P, P = pPlay i.p 1 ⟨t, q, r, xs⟩ a n := ⟨_, rfl⟩
  rw [← hPP]
  have HP := hidi (hPP.trans hP)
  clear hP hPP
  obtain ⟨w1, hw1⟩ : ∃ w1, w1 = w.alloc (.cells #[.int .i64 1, .bool s, .string t, .slice pa pn pc, .int .i64 q, .bool r, .int .i64 a, .int .i64 n] 32) := ⟨_, rfl⟩
  have a1 := heap_alloc_new w (.cells #[.int .i64 1, .bool s, .string t, .slice pa pn pc, .int .i64 q, .bool r, .int .i64 a, .int .i64 n] 32)
  have b1 : Below w.heap.size w (w.alloc (.cells #[.int .i64 1, .bool s, .string t, .slice pa pn pc, .int .i64 q, .bool r, .int .i64 a, .int .i64 n] 32)) := (Below.refl _ _).alloc (Nat.le_refl _) _
  rw [← hw1] at a1 b1
  have HX := hidi (And.intro a1 b1)
  have H := hidi (And.intro h (And.intro g (And.intro hc (And.intro hp (And.intro ht (And.intro ha hn))))))
  have S1 := hidi (St.below h b1)
  have e0 := box_cells a1 0 _ rfl
  have e2 := box_cells a1 2 _ rfl
  have e3 := box_cells a1 3 _ rfl
  have e4 := box_cells a1 4 _ rfl
  have e5 := box_cells a1 5 _ rfl
  have e6 := box_cells a1 6 _ rfl
  have e7 := box_cells a1 7 _ rfl
  clear h g hc hp ht ha hn a1 b1
  go_enter Tryd.func11, Tryd.ntmps11
  go_upto_region 1 with fail
  rw [← hw1]
  clear hw1
  have C1 := hidi (send_ws (m := ⟨t, .slice pa pn pc, q, r, xs⟩) S1.out.ws (H.out.2.1.below HX.out.2) H.out.2.2.1 (H.out.2.2.2.1.below HX.out.2) H.out.2.2.2.2.1)
  go_wp2_with (go_at_call 17; refine C1.out.mono ?_; clear C1; rintro e w' ⟨v, rfl, hz⟩; have Z := hidi hz; clear hz)
  go_ret
  have e := HP.out
  subst e
  exact ⟨v, rfl, Z.out.after S1.out⟩
set_option maxRecDepth 100000 in
set_option maxHeartbeats 4000000 in
theorem play_ack {w : World} {wb : Nat} {i : WI} {c : Nat} {s : Bool} {t : ByteArray} {pa : Option Addr} {pn pc : Nat} {q : Int} {r : Bool} {xs : List Int} {a n : Int} (h : WS w wb i c) (g : Gd w) (hc : c + 1 ≤ 200000) (hp : PBi w (.slice pa pn pc) xs) (ht : t.size ≤ 1000000) (ha : okI a) (hn : okI n) :
    Calls Tryd.prog 11 #[.pointer (some ⟨wb, 0, none⟩), .agg #[.int .i64 2, .bool s, .string t, .slice pa pn pc, .int .i64 q, .bool r, .int .i64 a, .int .i64 n]] w fun e w' => ∃ v, e = .returned v ∧ Out w w' wb i (c + 1) (pPlay i.p 2 ⟨t, q, r, xs⟩ a n).1 (pPlay i.p 2 ⟨t, q, r, xs⟩ a n).2 v := by
  have hP : pPlay i.p 2 ⟨t, q, r, xs⟩ a n = pAck i.p a n := by
    unfold pPlay
    simp
  obtain ⟨P, hPP⟩ : ∃ P, P = pPlay i.p 2 ⟨t, q, r, xs⟩ a n := ⟨_, rfl⟩
  rw [← hPP]
  have HP := hidi (hPP.trans hP)
  clear hP hPP
  obtain ⟨w1, hw1⟩ : ∃ w1, w1 = w.alloc (.cells #[.int .i64 2, .bool s, .string t, .slice pa pn pc, .int .i64 q, .bool r, .int .i64 a, .int .i64 n] 32) := ⟨_, rfl⟩
  have a1 := heap_alloc_new w (.cells #[.int .i64 2, .bool s, .string t, .slice pa pn pc, .int .i64 q, .bool r, .int .i64 a, .int .i64 n] 32)
  have b1 : Below w.heap.size w (w.alloc (.cells #[.int .i64 2, .bool s, .string t, .slice pa pn pc, .int .i64 q, .bool r, .int .i64 a, .int .i64 n] 32)) := (Below.refl _ _).alloc (Nat.le_refl _) _
  rw [← hw1] at a1 b1
  have HX := hidi (And.intro a1 b1)
  have H := hidi (And.intro h (And.intro g (And.intro hc (And.intro hp (And.intro ht (And.intro ha hn))))))
  have S1 := hidi (St.below h b1)
  have e0 := box_cells a1 0 _ rfl
  have e2 := box_cells a1 2 _ rfl
  have e3 := box_cells a1 3 _ rfl
  have e4 := box_cells a1 4 _ rfl
  have e5 := box_cells a1 5 _ rfl
  have e6 := box_cells a1 6 _ rfl
  have e7 := box_cells a1 7 _ rfl
  clear h g hc hp ht ha hn a1 b1
  go_enter Tryd.func11, Tryd.ntmps11
  go_upto_region 1 with fail
  rw [← hw1]
  clear hw1
  have C1 := hidi (ack_ws S1.out.ws (H.out.2.1.below HX.out.2) (Nat.le_trans (Nat.le_succ c) H.out.2.2.1) a n H.out.2.2.2.2.2.2)
  go_wp2_with (go_at_call 20; refine C1.out.mono ?_; clear C1; rintro e w' ⟨v, rfl, hz⟩; have Z := hidi hz; clear hz)
  go_ret
  have e := HP.out
  subst e
  exact ⟨v, rfl, (Z.out.after S1.out).more (Nat.le_succ c)⟩
set_option maxRecDepth 100000 in
set_option maxHeartbeats 4000000 in
theorem play_up {w : World} {wb : Nat} {i : WI} {c : Nat} {s : Bool} {t : ByteArray} {pa : Option Addr} {pn pc : Nat} {q : Int} {r : Bool} {xs : List Int} {a n : Int} (h : WS w wb i c) (g : Gd w) (hc : c + 1 ≤ 200000) (hp : PBi w (.slice pa pn pc) xs) (ht : t.size ≤ 1000000) (ha : okI a) (hn : okI n) :
    Calls Tryd.prog 11 #[.pointer (some ⟨wb, 0, none⟩), .agg #[.int .i64 3, .bool s, .string t, .slice pa pn pc, .int .i64 q, .bool r, .int .i64 a, .int .i64 n]] w fun e w' => ∃ v, e = .returned v ∧ Out w w' wb i (c + 1) (pPlay i.p 3 ⟨t, q, r, xs⟩ a n).1 (pPlay i.p 3 ⟨t, q, r, xs⟩ a n).2 v := by
  have hP : pPlay i.p 3 ⟨t, q, r, xs⟩ a n = pUp i.p := by
    unfold pPlay
    simp
  obtain ⟨P, hPP⟩ : ∃ P, P = pPlay i.p 3 ⟨t, q, r, xs⟩ a n := ⟨_, rfl⟩
  rw [← hPP]
  have HP := hidi (hPP.trans hP)
  clear hP hPP
  obtain ⟨w1, hw1⟩ : ∃ w1, w1 = w.alloc (.cells #[.int .i64 3, .bool s, .string t, .slice pa pn pc, .int .i64 q, .bool r, .int .i64 a, .int .i64 n] 32) := ⟨_, rfl⟩
  have a1 := heap_alloc_new w (.cells #[.int .i64 3, .bool s, .string t, .slice pa pn pc, .int .i64 q, .bool r, .int .i64 a, .int .i64 n] 32)
  have b1 : Below w.heap.size w (w.alloc (.cells #[.int .i64 3, .bool s, .string t, .slice pa pn pc, .int .i64 q, .bool r, .int .i64 a, .int .i64 n] 32)) := (Below.refl _ _).alloc (Nat.le_refl _) _
  rw [← hw1] at a1 b1
  have HX := hidi (And.intro a1 b1)
  have H := hidi (And.intro h (And.intro g (And.intro hc (And.intro hp (And.intro ht (And.intro ha hn))))))
  have S1 := hidi (St.below h b1)
  have e0 := box_cells a1 0 _ rfl
  have e2 := box_cells a1 2 _ rfl
  have e3 := box_cells a1 3 _ rfl
  have e4 := box_cells a1 4 _ rfl
  have e5 := box_cells a1 5 _ rfl
  have e6 := box_cells a1 6 _ rfl
  have e7 := box_cells a1 7 _ rfl
  clear h g hc hp ht ha hn a1 b1
  go_enter Tryd.func11, Tryd.ntmps11
  go_upto_region 1 with fail
  rw [← hw1]
  clear hw1
  have C1 := hidi (up_ws S1.out.ws (H.out.2.1.below HX.out.2) (Nat.le_trans (Nat.le_succ c) H.out.2.2.1))
  go_wp2_with (go_at_call 19; refine C1.out.mono ?_; clear C1; rintro e w' ⟨v, rfl, hz⟩; have Z := hidi hz; clear hz)
  go_ret
  have e := HP.out
  subst e
  exact ⟨v, rfl, (Z.out.after S1.out).more (Nat.le_succ c)⟩
set_option maxRecDepth 100000 in
set_option maxHeartbeats 4000000 in
theorem play_down {w : World} {wb : Nat} {i : WI} {c : Nat} {s : Bool} {t : ByteArray} {pa : Option Addr} {pn pc : Nat} {q : Int} {r : Bool} {xs : List Int} {a n : Int} (h : WS w wb i c) (g : Gd w) (hc : c + 1 ≤ 200000) (hp : PBi w (.slice pa pn pc) xs) (ht : t.size ≤ 1000000) (ha : okI a) (hn : okI n) :
    Calls Tryd.prog 11 #[.pointer (some ⟨wb, 0, none⟩), .agg #[.int .i64 4, .bool s, .string t, .slice pa pn pc, .int .i64 q, .bool r, .int .i64 a, .int .i64 n]] w fun e w' => ∃ v, e = .returned v ∧ Out w w' wb i (c + 1) (pPlay i.p 4 ⟨t, q, r, xs⟩ a n).1 (pPlay i.p 4 ⟨t, q, r, xs⟩ a n).2 v := by
  have hP : pPlay i.p 4 ⟨t, q, r, xs⟩ a n = ({ i.p with on := false }, []) := by
    unfold pPlay
    simp
  obtain ⟨P, hPP⟩ : ∃ P, P = pPlay i.p 4 ⟨t, q, r, xs⟩ a n := ⟨_, rfl⟩
  rw [← hPP]
  have HP := hidi (hPP.trans hP)
  clear hP hPP
  obtain ⟨w1, hw1⟩ : ∃ w1, w1 = w.alloc (.cells #[.int .i64 4, .bool s, .string t, .slice pa pn pc, .int .i64 q, .bool r, .int .i64 a, .int .i64 n] 32) := ⟨_, rfl⟩
  have a1 := heap_alloc_new w (.cells #[.int .i64 4, .bool s, .string t, .slice pa pn pc, .int .i64 q, .bool r, .int .i64 a, .int .i64 n] 32)
  have b1 : Below w.heap.size w (w.alloc (.cells #[.int .i64 4, .bool s, .string t, .slice pa pn pc, .int .i64 q, .bool r, .int .i64 a, .int .i64 n] 32)) := (Below.refl _ _).alloc (Nat.le_refl _) _
  rw [← hw1] at a1 b1
  have HX := hidi (And.intro a1 b1)
  have H := hidi (And.intro h (And.intro g (And.intro hc (And.intro hp (And.intro ht (And.intro ha hn))))))
  have S1 := hidi (St.below h b1)
  have e0 := box_cells a1 0 _ rfl
  have e2 := box_cells a1 2 _ rfl
  have e3 := box_cells a1 3 _ rfl
  have e4 := box_cells a1 4 _ rfl
  have e5 := box_cells a1 5 _ rfl
  have e6 := box_cells a1 6 _ rfl
  have e7 := box_cells a1 7 _ rfl
  clear h g hc hp ht ha hn a1 b1
  go_enter Tryd.func11, Tryd.ntmps11
  go_upto_region 1 with fail
  rw [← hw1]
  clear hw1
  have C1 := hidi (down_ws S1.out.ws)
  go_wp2_with (go_at_call 23; refine C1.out.mono ?_; clear C1; rintro e w' ⟨rfl, hz⟩; have Z := hidi hz; clear hz)
  go_ret
  have e := HP.out
  subst e
  exact ⟨_, rfl, ((S1.out.trans Z.out).more (Nat.le_succ c)).out ((S1.out.trans Z.out).gd H.out.1 H.out.2.1) rfl⟩
set_option maxRecDepth 100000 in
set_option maxHeartbeats 4000000 in
theorem play_res {w : World} {wb : Nat} {i : WI} {c : Nat} {s : Bool} {t : ByteArray} {pa : Option Addr} {pn pc : Nat} {q : Int} {r : Bool} {xs : List Int} {a n : Int} (h : WS w wb i c) (g : Gd w) (hc : c + 1 ≤ 200000) (hp : PBi w (.slice pa pn pc) xs) (ht : t.size ≤ 1000000) (ha : okI a) (hn : okI n) :
    Calls Tryd.prog 11 #[.pointer (some ⟨wb, 0, none⟩), .agg #[.int .i64 5, .bool s, .string t, .slice pa pn pc, .int .i64 q, .bool r, .int .i64 a, .int .i64 n]] w fun e w' => ∃ v, e = .returned v ∧ Out w w' wb i (c + 1) (pPlay i.p 5 ⟨t, q, r, xs⟩ a n).1 (pPlay i.p 5 ⟨t, q, r, xs⟩ a n).2 v := by
  have hP : pPlay i.p 5 ⟨t, q, r, xs⟩ a n = ((pReserve i.p).1, []) := by
    unfold pPlay
    simp
  obtain ⟨P, hPP⟩ : ∃ P, P = pPlay i.p 5 ⟨t, q, r, xs⟩ a n := ⟨_, rfl⟩
  rw [← hPP]
  have HP := hidi (hPP.trans hP)
  clear hP hPP
  obtain ⟨w1, hw1⟩ : ∃ w1, w1 = w.alloc (.cells #[.int .i64 5, .bool s, .string t, .slice pa pn pc, .int .i64 q, .bool r, .int .i64 a, .int .i64 n] 32) := ⟨_, rfl⟩
  have a1 := heap_alloc_new w (.cells #[.int .i64 5, .bool s, .string t, .slice pa pn pc, .int .i64 q, .bool r, .int .i64 a, .int .i64 n] 32)
  have b1 : Below w.heap.size w (w.alloc (.cells #[.int .i64 5, .bool s, .string t, .slice pa pn pc, .int .i64 q, .bool r, .int .i64 a, .int .i64 n] 32)) := (Below.refl _ _).alloc (Nat.le_refl _) _
  rw [← hw1] at a1 b1
  have HX := hidi (And.intro a1 b1)
  have H := hidi (And.intro h (And.intro g (And.intro hc (And.intro hp (And.intro ht (And.intro ha hn))))))
  have S1 := hidi (St.below h b1)
  have e0 := box_cells a1 0 _ rfl
  have e2 := box_cells a1 2 _ rfl
  have e3 := box_cells a1 3 _ rfl
  have e4 := box_cells a1 4 _ rfl
  have e5 := box_cells a1 5 _ rfl
  have e6 := box_cells a1 6 _ rfl
  have e7 := box_cells a1 7 _ rfl
  clear h g hc hp ht ha hn a1 b1
  go_enter Tryd.func11, Tryd.ntmps11
  go_upto_region 1 with fail
  rw [← hw1]
  clear hw1
  have C1 := hidi (reserve_ws S1.out.ws (H.out.2.1.below HX.out.2) H.out.2.2.1)
  go_wp2_with (go_at_call 9; refine C1.out.mono ?_; clear C1; rintro e w' ⟨rfl, hz⟩; have Z := hidi hz; clear hz)
  go_ret
  have e := HP.out
  subst e
  obtain ⟨gz, i', sz, ez⟩ := Z.out
  exact ⟨_, rfl, (S1.out.trans sz).out gz ez⟩
set_option maxRecDepth 100000 in
set_option maxHeartbeats 4000000 in
theorem play_free {w : World} {wb : Nat} {i : WI} {c : Nat} {s : Bool} {t : ByteArray} {pa : Option Addr} {pn pc : Nat} {q : Int} {r : Bool} {xs : List Int} {a n : Int} (h : WS w wb i c) (g : Gd w) (hc : c + 1 ≤ 200000) (hp : PBi w (.slice pa pn pc) xs) (ht : t.size ≤ 1000000) (ha : okI a) (hn : okI n) :
    Calls Tryd.prog 11 #[.pointer (some ⟨wb, 0, none⟩), .agg #[.int .i64 6, .bool s, .string t, .slice pa pn pc, .int .i64 q, .bool r, .int .i64 a, .int .i64 n]] w fun e w' => ∃ v, e = .returned v ∧ Out w w' wb i (c + 1) (pPlay i.p 6 ⟨t, q, r, xs⟩ a n).1 (pPlay i.p 6 ⟨t, q, r, xs⟩ a n).2 v := by
  have hP : pPlay i.p 6 ⟨t, q, r, xs⟩ a n = ((pFree i.p n).1, []) := by
    unfold pPlay
    simp
  obtain ⟨P, hPP⟩ : ∃ P, P = pPlay i.p 6 ⟨t, q, r, xs⟩ a n := ⟨_, rfl⟩
  rw [← hPP]
  have HP := hidi (hPP.trans hP)
  clear hP hPP
  obtain ⟨w1, hw1⟩ : ∃ w1, w1 = w.alloc (.cells #[.int .i64 6, .bool s, .string t, .slice pa pn pc, .int .i64 q, .bool r, .int .i64 a, .int .i64 n] 32) := ⟨_, rfl⟩
  have a1 := heap_alloc_new w (.cells #[.int .i64 6, .bool s, .string t, .slice pa pn pc, .int .i64 q, .bool r, .int .i64 a, .int .i64 n] 32)
  have b1 : Below w.heap.size w (w.alloc (.cells #[.int .i64 6, .bool s, .string t, .slice pa pn pc, .int .i64 q, .bool r, .int .i64 a, .int .i64 n] 32)) := (Below.refl _ _).alloc (Nat.le_refl _) _
  rw [← hw1] at a1 b1
  have HX := hidi (And.intro a1 b1)
  have H := hidi (And.intro h (And.intro g (And.intro hc (And.intro hp (And.intro ht (And.intro ha hn))))))
  have S1 := hidi (St.below h b1)
  have e0 := box_cells a1 0 _ rfl
  have e2 := box_cells a1 2 _ rfl
  have e3 := box_cells a1 3 _ rfl
  have e4 := box_cells a1 4 _ rfl
  have e5 := box_cells a1 5 _ rfl
  have e6 := box_cells a1 6 _ rfl
  have e7 := box_cells a1 7 _ rfl
  clear h g hc hp ht ha hn a1 b1
  go_enter Tryd.func11, Tryd.ntmps11
  go_upto_region 1 with fail
  rw [← hw1]
  clear hw1
  have C1 := hidi (free_ws S1.out.ws (H.out.2.1.below HX.out.2) (Nat.le_trans (Nat.le_succ c) H.out.2.2.1) n H.out.2.2.2.2.2.2)
  go_wp2_with (go_at_call 10; refine C1.out.mono ?_; clear C1; rintro e w' ⟨rfl, hz⟩; have Z := hidi hz; clear hz)
  go_ret
  have e := HP.out
  subst e
  obtain ⟨gz, i', sz, ez⟩ := Z.out
  exact ⟨_, rfl, ((S1.out.trans sz).more (Nat.le_succ c)).out gz ez⟩
set_option maxRecDepth 100000 in
set_option maxHeartbeats 4000000 in
theorem play_else {w : World} {wb : Nat} {i : WI} {c : Nat} {s : Bool} {t : ByteArray} {pa : Option Addr} {pn pc : Nat} {q : Int} {r : Bool} {xs : List Int} {k a n : Int} (h : WS w wb i c) (g : Gd w) (hc : c + 1 ≤ 200000) (hp : PBi w (.slice pa pn pc) xs) (ht : t.size ≤ 1000000) (ha : okI a) (hn : okI n) (k1 : (k == 1) = false) (k2 : (k == 2) = false) (k3 : (k == 3) = false) (k4 : (k == 4) = false) (k5 : (k == 5) = false) (k6 : (k == 6) = false) (k9 : (k == 9) = false) :
    Calls Tryd.prog 11 #[.pointer (some ⟨wb, 0, none⟩), .agg #[.int .i64 k, .bool s, .string t, .slice pa pn pc, .int .i64 q, .bool r, .int .i64 a, .int .i64 n]] w fun e w' => ∃ v, e = .returned v ∧ Out w w' wb i (c + 1) (pPlay i.p k ⟨t, q, r, xs⟩ a n).1 (pPlay i.p k ⟨t, q, r, xs⟩ a n).2 v := by
  have hP : pPlay i.p k ⟨t, q, r, xs⟩ a n = (i.p, []) := by
    unfold pPlay
    simp only [beq_eq_false_iff_ne, ne_eq] at k1 k2 k3 k4 k5 k6 k9
    simp [k1, k2, k3, k4, k5, k6, k9]
  obtain ⟨P, hPP⟩ : ∃ P, P = pPlay i.p k ⟨t, q, r, xs⟩ a n := ⟨_, rfl⟩
  rw [← hPP]
  have HP := hidi (hPP.trans hP)
  clear hP hPP
  obtain ⟨w1, hw1⟩ : ∃ w1, w1 = w.alloc (.cells #[.int .i64 k, .bool s, .string t, .slice pa pn pc, .int .i64 q, .bool r, .int .i64 a, .int .i64 n] 32) := ⟨_, rfl⟩
  have a1 := heap_alloc_new w (.cells #[.int .i64 k, .bool s, .string t, .slice pa pn pc, .int .i64 q, .bool r, .int .i64 a, .int .i64 n] 32)
  have b1 : Below w.heap.size w (w.alloc (.cells #[.int .i64 k, .bool s, .string t, .slice pa pn pc, .int .i64 q, .bool r, .int .i64 a, .int .i64 n] 32)) := (Below.refl _ _).alloc (Nat.le_refl _) _
  rw [← hw1] at a1 b1
  have HX := hidi (And.intro a1 b1)
  have H := hidi (And.intro h (And.intro g (And.intro hc (And.intro hp (And.intro ht (And.intro ha hn))))))
  have S1 := hidi (St.below h b1)
  have e0 := box_cells a1 0 _ rfl
  have e2 := box_cells a1 2 _ rfl
  have e3 := box_cells a1 3 _ rfl
  have e4 := box_cells a1 4 _ rfl
  have e5 := box_cells a1 5 _ rfl
  have e6 := box_cells a1 6 _ rfl
  have e7 := box_cells a1 7 _ rfl
  clear h g hc hp ht ha hn a1 b1
  go_enter Tryd.func11, Tryd.ntmps11
  go_upto_region 1 with fail
  rw [← hw1]
  clear hw1
  go_wp2_with fail
  go_ret
  have e := HP.out
  subst e
  exact ⟨_, rfl, (S1.out.more (Nat.le_succ c)).out (H.out.2.1.below HX.out.2) rfl⟩
end Go.Proofs.YtbjhblnagmpnfaaDoor
