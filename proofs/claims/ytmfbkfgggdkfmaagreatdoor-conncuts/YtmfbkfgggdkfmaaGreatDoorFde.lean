import Derived.Test.YtmfbkfgggdkfmaaGreatDoorFdd
namespace Go.Proofs.YtmfbkfgggdkfmaaGreatDoor
open Go Go.RowKit
open Pkt (Pk Cn Sl In By Is Ss As pkCells)
set_option linter.unusedSimpArgs false
set_option linter.unusedVariables false

def cWill (z : Nat → Int) (n : Nat) (b : Bool) (r : Rs) (wt : ByteArray) (wl : Nat × (Nat → Int)) : (ByteArray × (Nat × (Nat → Int))) × Rs :=
  if b then (((rText z n r).1, (rData z n (rText z n r).2).1), (rData z n (rText z n r).2).2) else ((wt, wl), r)
def cUser (z : Nat → Int) (n : Nat) (b : Bool) (r : Rs) (u : ByteArray) : ByteArray × Rs := if b then rText z n r else (u, r)
def cPass (z : Nat → Int) (n : Nat) (b : Bool) (r : Rs) (l : Nat × (Nat → Int)) : (Nat × (Nat → Int)) × Rs := if b then rData z n r else (l, r)
def isM (t : ByteArray) : Bool := t.toList == [77, 81, 84, 84]
def cEnd (p : Pk) (c : Cn) (l m k : Int) (i : ByteArray) (x : ByteArray × (Nat × (Nat → Int))) (u : ByteArray) (s : Nat × (Nat → Int)) (e : Rs) : Except (Int × Int) (Rs × Pk × Cn) :=
  if e.q ≠ 0 then .error (e.p, e.q) else .ok (e, { p with level := l, hasUser := mk m 128, hasPass := mk m 64, wR := mk m 32, wQ := bits .and .u8 m 24 / 8, hasWill := mk m 4, clean := mk m 2, keep := k, client := i, wT := x.1, wP := ⟨none, x.2.1, 0⟩, user := u, pass := ⟨none, s.1, 0⟩ }, { c with wz := x.2.2, pz := s.2 })
def badMarks (m : Int) : Bool := mk m 1 || (bits .and .u8 m 24 == 24)
def cMid (z : Nat → Int) (n : Nat) (p : Pk) (c : Cn) (l m : Int) (r : Rs) : Except (Int × Int) (Rs × Pk × Cn) :=
  cEnd p c l m (rNum z n r).1 (rText z n (rNum z n r).2).1 (cWill z n (mk m 4) (rText z n (rNum z n r).2).2 p.wT (p.wP.n, c.wz)).1
    (cUser z n (mk m 128) (cWill z n (mk m 4) (rText z n (rNum z n r).2).2 p.wT (p.wP.n, c.wz)).2 p.user).1
    (cPass z n (mk m 64) (cUser z n (mk m 128) (cWill z n (mk m 4) (rText z n (rNum z n r).2).2 p.wT (p.wP.n, c.wz)).2 p.user).2 (p.pass.n, c.pz)).1
    (rEnd n (cPass z n (mk m 64) (cUser z n (mk m 128) (cWill z n (mk m 4) (rText z n (rNum z n r).2).2 p.wT (p.wP.n, c.wz)).2 p.user).2 (p.pass.n, c.pz)).2)
def connectP (z : Nat → Int) (n : Nat) (r : Rs) (p : Pk) (c : Cn) : Except (Int × Int) (Rs × Pk × Cn) :=
  if (rText z n r).2.q = 0 ∧ isM (rText z n r).1 = false then .error ((r.at0 : Int), 33)
  else if badMarks (rByte z n (rByte z n (rText z n r).2).2).1 then .error (((rByte z n (rText z n r).2).2.at0 : Int), 34)
  else cMid z n p c (rByte z n (rText z n r).2).1 (rByte z n (rByte z n (rText z n r).2).2).1 (rByte z n (rByte z n (rText z n r).2).2).2
theorem dead_byte {z : Nat → Int} {n : Nat} {r : Rs} (h : r.q ≠ 0) : rByte z n r = (0, r) := if_pos h
set_option maxRecDepth 100000 in
set_option maxHeartbeats 4000000 in
theorem connect_odd {w0 w : World} {rb g n cp pb : Nat} {z : Nat → Int} {r : Rs} {p : Pk} {c : Cn} (h : Cs w0 w rb g n cp pb z r p c) (hN : (rText z n r).2.q = 0 ∧ isM (rText z n r).1 = false) :
    Calls Tryz.prog 58 #[.agg #[.pointer (some ⟨rb, 0, none⟩), .int .i64 n], .pointer (some ⟨pb, 0, none⟩)] w fun e w' => OutIs w0 w' e rb g n cp pb z (connectP z n r p c) := by
  have LW : Hid (w0.heap.size ≤ w.heap.size) := h.size
  have LR : Hid (rb < w0.heap.size ∧ pb < w0.heap.size) := ⟨h.lr, h.lp⟩
  obtain ⟨R, hR⟩ : ∃ R, R = connectP z n r p c := ⟨_, rfl⟩
  rw [← hR]
  have HR : Hid (R = connectP z n r p c) := hR
  clear hR
  obtain ⟨t, ht⟩ : ∃ t, t = rText z n r := ⟨_, rfl⟩
  rw [← ht] at hN
  have H1 : Hid (t = rText z n r) := ht
  have HE : Hid (R = .error ((r.at0 : Int), 33)) := by show _ = _; rw [HR.out, connectP, ← ht, if_pos hN]
  clear ht HR
  obtain ⟨t, r1⟩ := t
  simp only at hN
  have hq := hN.1
  have HQ : Hid (r1.q = 0) := hq
  have ho : (t.toList == [77, 81, 84, 84]) = false := hN.2
  clear hN hq
  have X0 : Hid (Cs w0 (w.alloc (.cells #[.pointer (some ⟨rb, 0, none⟩), .int .i64 n] 100)) rb g n cp pb z r p c) := h.below ((Below.refl _ _).alloc (Nat.le_refl _) _)
  have BX0 : Hid ((w.alloc (.cells #[.pointer (some ⟨rb, 0, none⟩), .int .i64 n] 100)).cell? ⟨w.heap.size, 0, none⟩ = some (.pointer (some ⟨rb, 0, none⟩))) := by show _ = _; simp [go_sem]
  clear h
  go_enter Tryz.func58, Tryz.ntmps58
  have bx := BX0.out
  go_wp2_with (first | (go_at_call 78; refine (at_any rb _ _ _ _ _ X0.out.rd.rd).mono ?_; rintro e w' ⟨rfl, hee⟩; obtain rfl := hee.symm; clear hee) | fail)
  go_must (go_at_call 79)
  clear bx
  refine (text_any X0.out.rd).mono ?_
  rw [← H1.out]
  rintro e v1 ⟨rfl, hr, hg⟩
  have X1 : Hid (Cs w0 v1 rb g n cp pb z r1 p c) := X0.out.read hr hg
  have BX1 : Hid (v1.cell? ⟨w.heap.size, 0, none⟩ = some (.pointer (some ⟨rb, 0, none⟩))) := hg.cell BX0.out (by have := LR.out; have := LW.out; simp; omega)
  clear hr hg
  have bx := BX1.out
  go_wp2_with fail
  go_must (go_at_call 66)
  clear bx
  refine (err_nil rb _ _ _ _ (by have h := X1.out.rd.rd; rw [HQ.out] at h; exact h)).mono ?_
  rintro e w2 ⟨rfl, hee⟩
  obtain rfl := hee.symm
  clear hee
  go_wp2_with fail
  go_must (go_at_call 44)
  refine (fault_any _ _ _).mono ?_
  rintro e w2 ⟨⟨gg, rfl, hgg⟩, hb⟩
  have Z : Hid (w2.heap[gg]? = some (.cells #[.int .i64 ((r.at0 : Int) : Int), .int .i64 33] 61 (0, 0)) ∧ Fr2 w0 w2 rb pb) := ⟨hgg, X1.out.fr.below hb⟩
  clear hgg hb
  go_wp2
  go_ret
  rw [HE.out]
  exact ⟨⟨gg, rfl, Z.out.1⟩, Z.out.2⟩

set_option maxRecDepth 100000 in
set_option maxHeartbeats 4000000 in
theorem connect_dead {w0 w : World} {rb g n cp pb : Nat} {z : Nat → Int} {r : Rs} {p : Pk} {c : Cn} (h : Cs w0 w rb g n cp pb z r p c) (hN : ¬ ((rText z n r).2.q = 0 ∧ isM (rText z n r).1 = false)) (hq : (rText z n r).2.q ≠ 0) :
    Calls Tryz.prog 58 #[.agg #[.pointer (some ⟨rb, 0, none⟩), .int .i64 n], .pointer (some ⟨pb, 0, none⟩)] w fun e w' => OutIs w0 w' e rb g n cp pb z (connectP z n r p c) := by
  have LW : Hid (w0.heap.size ≤ w.heap.size) := h.size
  have LR : Hid (rb < w0.heap.size ∧ pb < w0.heap.size) := ⟨h.lr, h.lp⟩
  obtain ⟨R, hR⟩ : ∃ R, R = connectP z n r p c := ⟨_, rfl⟩
  rw [← hR]
  have HR : Hid (R = connectP z n r p c) := hR
  clear hR
  obtain ⟨t, ht⟩ : ∃ t, t = rText z n r := ⟨_, rfl⟩
  rw [← ht] at hN hq
  have H1 : Hid (t = rText z n r) := ht
  obtain ⟨l, hl⟩ : ∃ y, y = rByte z n t.2 := ⟨_, rfl⟩
  obtain ⟨m, hm⟩ : ∃ y, y = rByte z n l.2 := ⟨_, rfl⟩
  obtain ⟨k, hk⟩ : ∃ y, y = rNum z n m.2 := ⟨_, rfl⟩
  obtain ⟨i, hi⟩ : ∃ y, y = rText z n k.2 := ⟨_, rfl⟩
  obtain ⟨A, hA⟩ : ∃ y, mk m.1 128 = y := ⟨_, rfl⟩
  obtain ⟨B, hB⟩ : ∃ y, mk m.1 64 = y := ⟨_, rfl⟩
  obtain ⟨C, hC⟩ : ∃ y, mk m.1 32 = y := ⟨_, rfl⟩
  obtain ⟨E, hE⟩ : ∃ y, mk m.1 4 = y := ⟨_, rfl⟩
  obtain ⟨F, hF⟩ : ∃ y, mk m.1 2 = y := ⟨_, rfl⟩
  obtain ⟨D, hD⟩ : ∃ y, bits .and .u8 m.1 24 / 8 = y := ⟨_, rfl⟩
  obtain ⟨x, hx⟩ : ∃ y, y = cWill z n E i.2 p.wT (p.wP.n, c.wz) := ⟨_, rfl⟩
  obtain ⟨u, hu⟩ : ∃ y, y = cUser z n A x.2 p.user := ⟨_, rfl⟩
  obtain ⟨s, hs⟩ : ∃ y, y = cPass z n B u.2 (p.pass.n, c.pz) := ⟨_, rfl⟩
  obtain ⟨r9, hr9⟩ : ∃ y, y = rEnd n s.2 := ⟨_, rfl⟩
  have HS : Hid (R = if badMarks m.1 then .error ((l.2.at0 : Int), 34) else if r9.q ≠ 0 then .error (r9.p, r9.q) else .ok (r9, { p with level := l.1, hasUser := A, hasPass := B, wR := C, wQ := D, hasWill := E, clean := F, keep := k.1, client := i.1, wT := x.1.1, wP := ⟨none, x.1.2.1, 0⟩, user := u.1, pass := ⟨none, s.1.1, 0⟩ }, { c with wz := x.1.2.2, pz := s.1.2 })) := by
    show _ = _
    rw [HR.out, connectP, ← ht, if_neg hN, ← hl, ← hm, cMid, ← hk, ← hi, hE, ← hx, hA, ← hu, hB, ← hs, ← hr9, cEnd, hA, hB, hC, hD, hE, hF]
  have H2 : Hid (l = rByte z n t.2) := hl
  have H3 : Hid (m = rByte z n l.2) := hm
  have H4 : Hid (k = rNum z n m.2) := hk
  have H5 : Hid (i = rText z n k.2) := hi
  have H6 : Hid (x = cWill z n E i.2 p.wT (p.wP.n, c.wz)) := hx
  have H7 : Hid (u = cUser z n A x.2 p.user) := hu
  have H8 : Hid (s = cPass z n B u.2 (p.pass.n, c.pz)) := hs
  have H9 : Hid (r9 = rEnd n s.2) := hr9
  have HM : Hid (mk m.1 128 = A ∧ mk m.1 64 = B ∧ mk m.1 32 = C ∧ bits .and .u8 m.1 24 / 8 = D ∧ mk m.1 4 = E ∧ mk m.1 2 = F) := ⟨hA, hB, hC, hD, hE, hF⟩
  clear ht hl hm hk hi hx hu hs hr9 hA hB hC hD hE hF HR
  obtain ⟨t, r1⟩ := t
  obtain ⟨l, r2⟩ := l
  obtain ⟨m, r3⟩ := m
  obtain ⟨k, r4⟩ := k
  obtain ⟨i, r5⟩ := i
  obtain ⟨⟨xt, xn, xz⟩, r6⟩ := x
  obtain ⟨us, r7⟩ := u
  obtain ⟨⟨sn, sz⟩, r8⟩ := s
  simp only at H2 H3 H4 H5 H6 H7 H8 H9 HS HM hN
  simp only at hq
  have HQ : Hid (r1.q ≠ 0) := hq
  clear hN hq
  have X0 : Hid (Cs w0 (w.alloc (.cells #[.pointer (some ⟨rb, 0, none⟩), .int .i64 n] 100)) rb g n cp pb z r p c) := h.below ((Below.refl _ _).alloc (Nat.le_refl _) _)
  have BX0 : Hid ((w.alloc (.cells #[.pointer (some ⟨rb, 0, none⟩), .int .i64 n] 100)).cell? ⟨w.heap.size, 0, none⟩ = some (.pointer (some ⟨rb, 0, none⟩))) := by show _ = _; simp [go_sem]
  clear h
  go_enter Tryz.func58, Tryz.ntmps58
  have bx := BX0.out
  go_wp2_with (first | (go_at_call 78; refine (at_any rb _ _ _ _ _ X0.out.rd.rd).mono ?_; rintro e w' ⟨rfl, hee⟩; obtain rfl := hee.symm; clear hee) | fail)
  go_must (go_at_call 79)
  clear bx
  refine (text_any X0.out.rd).mono ?_
  rw [← H1.out]
  rintro e v1 ⟨rfl, hr, hg⟩
  have X1 : Hid (Cs w0 v1 rb g n cp pb z r1 p c) := X0.out.read hr hg
  have BX1 : Hid (v1.cell? ⟨w.heap.size, 0, none⟩ = some (.pointer (some ⟨rb, 0, none⟩))) := hg.cell BX0.out (by have := LR.out; have := LW.out; simp; omega)
  clear hr hg
  have bx := BX1.out
  go_wp2_with fail
  go_must (go_at_call 66)
  clear bx
  refine (err_some rb _ _ _ _ _ X1.out.rd.rd HQ.out).mono ?_
  rintro e v2 ⟨rfl, hee⟩
  have hb : Below v1.heap.size v1 v2 := by rw [hee]; exact ((Below.refl _ _).alloc (Nat.le_refl _) _).drew
  have X2 : Hid (Cs w0 v2 rb g n cp pb z r1 p c) := X1.out.below hb
  have BX2 : Hid (v2.cell? ⟨w.heap.size, 0, none⟩ = some (.pointer (some ⟨rb, 0, none⟩))) := cell_later hb BX1.out
  clear hee hb
  go_upto_region 5 with fail
  have bx := BX2.out
  go_wp2_with fail
  go_must (go_at_call 46)
  clear bx
  refine (byte_any X2.out.rd).mono ?_
  rw [← H2.out]
  rintro e v3 ⟨rfl, hr, hg⟩
  have X3 : Hid (Cs w0 v3 rb g n cp pb z r2 (p) (c)) := X2.out.read hr hg
  have BX3 : Hid (v3.cell? ⟨w.heap.size, 0, none⟩ = some (.pointer (some ⟨rb, 0, none⟩))) := hg.cell BX2.out (by have := LR.out; have := LW.out; simp; omega)
  clear hr hg
  have bl : 0 ≤ l ∧ l ≤ 255 := by have h := rByte_bd (z := z) (n := n) X1.out.rd; rw [← H2.out] at h; exact h
  have e1 := X3.out.cell 1 (.int .i64 p.level) rfl
  have z1 := X3.out.frozen 1
  obtain ⟨v4, hW⟩ : ∃ W, W = v3.setCell ⟨pb, 1, none⟩ (.int .i64 l) := ⟨_, rfl⟩
  have X4 := (show Hid _ from X3.out.setS 1 (.int .i64 l) ({ p with level := l }) rfl rfl rfl rfl rfl rfl rfl)
  rw [← hW] at X4
  have BX4 : Hid (v4.cell? ⟨w.heap.size, 0, none⟩ = some (.pointer (some ⟨rb, 0, none⟩))) := by show _ = _; rw [hW]; exact bx_set BX3.out (by have := LR.out; have := LW.out; omega)
  go_upto_region 6 with fail
  rw [← hW]
  clear hW e1 z1
  clear bl
  have bm : 0 ≤ m ∧ m ≤ 255 := by have h := rByte_bd (z := z) (n := n) X4.out.rd; rw [← H3.out] at h; exact h
  have BM : Hid (0 ≤ m ∧ m ≤ 255) := bm
  clear bm
  have bx := BX4.out
  go_wp2_with (first | (go_at_call 78; refine (at_any rb _ _ _ _ _ X4.out.rd.rd).mono ?_; rintro e w' ⟨rfl, hee⟩; obtain rfl := hee.symm; clear hee) | fail)
  go_must (go_at_call 46)
  clear bx
  refine (byte_any X4.out.rd).mono ?_
  rw [← H3.out]
  rintro e v5 ⟨rfl, hr, hg⟩
  have X5 : Hid (Cs w0 v5 rb g n cp pb z r3 ({ p with level := l }) (c)) := X4.out.read hr hg
  have BX5 : Hid (v5.cell? ⟨w.heap.size, 0, none⟩ = some (.pointer (some ⟨rb, 0, none⟩))) := hg.cell BX4.out (by have := LR.out; have := LW.out; simp; omega)
  clear hr hg
  obtain ⟨a1, h1⟩ : ∃ y, (bits .and .u8 m 1 != 0) = y := ⟨_, rfl⟩
  obtain ⟨a2, h2⟩ : ∃ y, (bits .and .u8 m 24 == 24) = y := ⟨_, rfl⟩
  have HB : Hid (badMarks m = (a1 || a2)) := by show _ = _; rw [badMarks, mk, h1, h2]
  have hm0 : m = 0 ∧ r3 = r1 := by
    have e2 := H2.out.trans (dead_byte HQ.out)
    have e3 := H3.out
    rw [(Prod.mk.inj e2).2] at e3
    have e4 := e3.trans (dead_byte HQ.out)
    exact ⟨(Prod.mk.inj e4).1, (Prod.mk.inj e4).2⟩
  have hmz := hm0.1
  have hrz := hm0.2.symm
  clear hm0
  have HAE : Hid (A = false ∧ B = false ∧ E = false) := by have h := HM.out; rw [hmz] at h; exact ⟨h.1.symm.trans rfl, h.2.1.symm.trans rfl, h.2.2.2.2.1.symm.trans rfl⟩
  have a10 : a1 = false := by rw [← h1, hmz]; rfl
  have a20 : a2 = false := by rw [← h2, hmz]; rfl
  subst a10 a20
  clear hmz hrz
  have HE : Hid (R = if r9.q ≠ 0 then .error (r9.p, r9.q) else .ok (r9, { p with level := l, hasUser := A, hasPass := B, wR := C, wQ := D, hasWill := E, clean := F, keep := k, client := i, wT := xt, wP := ⟨none, xn, 0⟩, user := us, pass := ⟨none, sn, 0⟩ }, { c with wz := xz, pz := sz })) := by show _ = _; rw [HS.out, if_neg (by rw [HB.out]; decide)]
  clear HS HB
  go_upto_region 10 with fail
  clear h1 h2
  go_wp2_with fail
  go_must (go_at_call 80)
  refine (marks_any m BM.out X5.out).mono ?_
  have EM : marksP ({ p with level := l }) m = { p with level := l, hasUser := A, hasPass := B, wR := C, wQ := D, hasWill := E, clean := F } := by obtain ⟨a, b, cc, d, ee, f⟩ := HM.out; rw [marksP, a, b, cc, d, ee, f]
  rw [EM]
  clear EM
  rintro e v6 ⟨rfl, hr, hg⟩
  have X6 : Hid (Cs w0 v6 rb g n cp pb z r3 ({ p with level := l, hasUser := A, hasPass := B, wR := C, wQ := D, hasWill := E, clean := F }) (c)) := hr
  have BX6 : Hid (v6.cell? ⟨w.heap.size, 0, none⟩ = some (.pointer (some ⟨rb, 0, none⟩))) := hg.cell BX5.out (by have := LR.out; have := LW.out; simp; omega)
  clear hr hg HM BM
  have bx := BX6.out
  go_wp2_with fail
  go_must (go_at_call 64)
  clear bx
  refine (number_any X6.out.rd).mono ?_
  rw [← H4.out]
  rintro e v7 ⟨rfl, hr, hg⟩
  have X7 : Hid (Cs w0 v7 rb g n cp pb z r4 ({ p with level := l, hasUser := A, hasPass := B, wR := C, wQ := D, hasWill := E, clean := F }) (c)) := X6.out.read hr hg
  have BX7 : Hid (v7.cell? ⟨w.heap.size, 0, none⟩ = some (.pointer (some ⟨rb, 0, none⟩))) := hg.cell BX6.out (by have := LR.out; have := LW.out; simp; omega)
  clear hr hg
  have e3 := X7.out.cell 3 (.int .i64 p.keep) rfl
  have z3 := X7.out.frozen 3
  obtain ⟨v8, hW⟩ : ∃ W, W = v7.setCell ⟨pb, 3, none⟩ (.int .i64 k) := ⟨_, rfl⟩
  have X8 := (show Hid _ from X7.out.setS 3 (.int .i64 k) ({ p with level := l, hasUser := A, hasPass := B, wR := C, wQ := D, hasWill := E, clean := F, keep := k }) rfl rfl rfl rfl rfl rfl rfl)
  rw [← hW] at X8
  have BX8 : Hid (v8.cell? ⟨w.heap.size, 0, none⟩ = some (.pointer (some ⟨rb, 0, none⟩))) := by show _ = _; rw [hW]; exact bx_set BX7.out (by have := LR.out; have := LW.out; omega)
  go_upto_region 12 with fail
  rw [← hW]
  clear hW e3 z3
  have bx := BX8.out
  go_wp2_with fail
  go_must (go_at_call 79)
  clear bx
  refine (text_any X8.out.rd).mono ?_
  rw [← H5.out]
  rintro e v9 ⟨rfl, hr, hg⟩
  have X9 : Hid (Cs w0 v9 rb g n cp pb z r5 ({ p with level := l, hasUser := A, hasPass := B, wR := C, wQ := D, hasWill := E, clean := F, keep := k }) (c)) := X8.out.read hr hg
  have BX9 : Hid (v9.cell? ⟨w.heap.size, 0, none⟩ = some (.pointer (some ⟨rb, 0, none⟩))) := hg.cell BX8.out (by have := LR.out; have := LW.out; simp; omega)
  clear hr hg
  have e4 := X9.out.cell 4 (.string p.client) rfl
  have z4 := X9.out.frozen 4
  obtain ⟨v10, hW⟩ : ∃ W, W = v9.setCell ⟨pb, 4, none⟩ (.string i) := ⟨_, rfl⟩
  have X10 := (show Hid _ from X9.out.setS 4 (.string i) ({ p with level := l, hasUser := A, hasPass := B, wR := C, wQ := D, hasWill := E, clean := F, keep := k, client := i }) rfl rfl rfl rfl rfl rfl rfl)
  rw [← hW] at X10
  have BX10 : Hid (v10.cell? ⟨w.heap.size, 0, none⟩ = some (.pointer (some ⟨rb, 0, none⟩))) := by show _ = _; rw [hW]; exact bx_set BX9.out (by have := LR.out; have := LW.out; omega)
  go_upto_region 13 with fail
  rw [← hW]
  clear hW e4 z4
  have e5 := X10.out.cell 5 (.bool E) rfl
  have hv : E = false := HAE.out.2.2
  subst hv
  have eq6 := H6.out.trans (if_neg (by decide))
  simp only [Prod.mk.injEq] at eq6
  obtain ⟨⟨rfl, rfl, rfl⟩, rfl⟩ := eq6
  go_upto_region 16 with fail
  clear e5
  have e10 := X10.out.cell 10 (.bool A) rfl
  have hv : A = false := HAE.out.1
  subst hv
  have eq7 := H7.out.trans (if_neg (by decide))
  simp only [Prod.mk.injEq] at eq7
  obtain ⟨rfl, rfl⟩ := eq7
  go_upto_region 18 with fail
  clear e10
  have e12 := X10.out.cell 12 (.bool B) rfl
  have hv : B = false := HAE.out.2.1
  subst hv
  have eq8 := H8.out.trans (if_neg (by decide))
  simp only [Prod.mk.injEq] at eq8
  obtain ⟨⟨rfl, rfl⟩, rfl⟩ := eq8
  go_upto_region 20 with fail
  clear e12
  have bx := BX10.out
  go_wp2_with fail
  go_must (go_at_call 65)
  clear bx
  refine (end_any X10.out.rd).mono ?_
  rw [← H9.out]
  rintro e v11 ⟨rfl, hr, hg⟩
  have X11 : Hid (Cs w0 v11 rb g n cp pb z r9 ({ p with level := l, hasUser := false, hasPass := false, wR := C, wQ := D, hasWill := false, clean := F, keep := k, client := i }) (c)) := X10.out.read hr hg
  have BX11 : Hid (v11.cell? ⟨w.heap.size, 0, none⟩ = some (.pointer (some ⟨rb, 0, none⟩))) := hg.cell BX10.out (by have := LR.out; have := LW.out; simp; omega)
  clear hr hg
  have bx := BX11.out
  go_wp2_with fail
  go_must (go_at_call 66)
  clear bx
  have EE : R = if r9.q ≠ 0 then .error (r9.p, r9.q) else .ok (r9, { p with level := l, hasUser := false, hasPass := false, wR := C, wQ := D, hasWill := false, clean := F, keep := k, client := i, wT := p.wT, wP := ⟨none, p.wP.n, 0⟩, user := p.user, pass := ⟨none, p.pass.n, 0⟩ }, c) := HE.out
  have T := err_out X11.out ({ p with level := l, hasUser := false, hasPass := false, wR := C, wQ := D, hasWill := false, clean := F, keep := k, client := i, wT := p.wT, wP := ⟨none, p.wP.n, 0⟩, user := p.user, pass := ⟨none, p.pass.n, 0⟩ }) ⟨p.wP, p.pass, p.mP, p.asks, p.codes, p.filters, rfl, rfl, rfl, rfl, rfl, rfl, rfl⟩
  rw [← EE] at T
  refine T.mono ?_
  rintro e w6 hO
  obtain ⟨v, rfl⟩ := hO.ret
  have HO := (show Hid _ from hO)
  clear hO T EE
  go_wp2
  go_ret
  exact HO.out
end Go.Proofs.YtmfbkfgggdkfmaaGreatDoor
