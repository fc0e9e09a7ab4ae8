import Derived.Test.YtmfbkfgggdkfmaaGreatDoorFdj
namespace Go.Proofs.YtmfbkfgggdkfmaaGreatDoor
open Go Go.RowKit
open Pkt (Pk Cn Sl In By Is Ss As pkCells)
set_option linter.unusedSimpArgs false
set_option linter.unusedVariables false

theorem Tryz.info77 : (Tryz.prog.info? 77).map (fun i => (i.zero, i.size, i.bytes)) = some (some (.agg #[.string ⟨#[]⟩, .int .i64 0]), 2, 24) := by kernel_rfl
theorem agg_two : (Value.agg #[.string ⟨#[]⟩, .int .i64 0]).cells.size = 2 := by first | rfl | kernel_rfl | simp [go_sem]
theorem cell_two_new (w : World) (x y : Value) (t : TypeId) : ∀ j u, [x, y][j]? = some u → (w.alloc (.cells #[x, y] t)).cell? (Addr.add ⟨w.heap.size, 0, none⟩ j) = some u := by
  intro j u h
  match j with
  | 0 => simp at h; subst h; unfold World.cell?; rw [show (Addr.add ⟨w.heap.size, 0, none⟩ 0).block = w.heap.size from rfl, heap_alloc_new]; rfl
  | 1 => simp at h; subst h; unfold World.cell?; rw [show (Addr.add ⟨w.heap.size, 0, none⟩ 1).block = w.heap.size from rfl, heap_alloc_new]; rfl
  | k + 2 => simp at h
/-- Asks as they lie in a row. -/
def askCells (L : List (ByteArray × Int)) : List Value := L.flatMap fun x => [.string x.1, .int .i64 x.2]
theorem askCells_at (L : List (ByteArray × Int)) (i : Nat) (hi : i < L.length) : (askCells L)[i * 2]? = some (.string (L.getD i (⟨#[]⟩, 0)).1) ∧ (askCells L)[i * 2 + 1]? = some (.int .i64 (L.getD i (⟨#[]⟩, 0)).2) := by
  induction L generalizing i with
  | nil => simp at hi
  | cons x L ih =>
    cases i with
    | zero => exact ⟨rfl, rfl⟩
    | succ i =>
      have h := ih i (by simpa using hi)
      have e : askCells (x :: L) = .string x.1 :: .int .i64 x.2 :: askCells L := rfl
      rw [e, show (i + 1) * 2 = i * 2 + 1 + 1 by omega]
      simp only [List.getElem?_cons_succ, List.getD_cons_succ]
      exact h
theorem askCells_append (L : List (ByteArray × Int)) (x : ByteArray × Int) : askCells (L ++ [x]) = askCells L ++ [.string x.1, .int .i64 x.2] := by simp [askCells]
theorem own_as {w : World} {base : Nat} {s : Sl} {L : List (ByteArray × Int)} (h : w.ownsRow base 77 2 (.slice s.a s.n s.c) L.length (askCells L)) : As w s (fun i => (L.getD i (⟨#[]⟩, 0)).1) (fun i => (L.getD i (⟨#[]⟩, 0)).2) ∧ s.n = L.length ∧ Nx base s := by
  obtain ⟨a, m, c⟩ := s
  rcases h.2 with ⟨e, hl⟩ | ⟨gg, cap, cur, e, h1, h2, h3, _, _, h6⟩
  · cases e
    exact ⟨⟨Nat.le_refl _, .inl rfl⟩, hl.symm, fun b off e => by cases e⟩
  · cases e
    refine ⟨⟨h3, .inr ⟨gg, 0, rfl, fun i hi => ?_⟩⟩, rfl, fun b off e => by cases e; exact h1⟩
    have hi' : i < L.length := hi
    obtain ⟨q1, q2⟩ := askCells_at L i hi'
    rw [← h6, List.getElem?_take] at q1 q2
    have l1 : i * 2 < L.length * 2 := by omega
    have l2 : i * 2 + 1 < L.length * 2 := by omega
    simp only [l1, if_true, Array.getElem?_toList] at q1
    simp only [l2, if_true, Array.getElem?_toList] at q2
    simp only [Nat.zero_add]
    exact ⟨by simp [World.cell?, h2, q1], by simp [World.cell?, h2, q2]⟩

def subF (z : Nat → Int) (n : Nat) : Nat → Rs → List (ByteArray × Int) → Rs × List (ByteArray × Int)
  | 0, r, L => (r, L)
  | b + 1, r, L => if more n r = true then subF z n b (rByte z n (rText z n r).2).2 (L ++ [((rText z n r).1, (rByte z n (rText z n r).2).1)]) else (r, L)
theorem subF_end {z : Nat → Int} {n : Nat} (b : Nat) (r : Rs) (L : List (ByteArray × Int)) (h : more n r = false) : subF z n b r L = (r, L) := by
  cases b with
  | zero => rfl
  | succ b => simp [subF, h]
theorem rByte_on {z : Nat → Int} {n : Nat} {r : Rs} (h' : more n (rByte z n r).2 = true) : more n r = true ∧ r.at0 ≤ (rByte z n r).2.at0 := by
  obtain ⟨hq', hl'⟩ := more_at h'
  revert hq' hl'
  unfold rByte
  split
  · rename_i hq; intro q; exact absurd q hq
  · rename_i hq
    split
    · intro q; cases q
    · intro _ hl
      have hl2 : r.at0 + 1 < n := hl
      refine ⟨?_, Nat.le_add_right _ _⟩
      unfold more
      rw [decide_eq_true (alive hq), decide_eq_true (by omega)]; rfl
theorem sub_on {z : Nat → Int} {n : Nat} {r : Rs} (h : more n r = true) (h' : more n (rByte z n (rText z n r).2).2 = true) : r.at0 + 2 ≤ (rByte z n (rText z n r).2).2.at0 := by
  obtain ⟨h1, h2⟩ := rByte_on h'
  have := rText_on h h1
  omega
def subP (z : Nat → Int) (n : Nat) (r : Rs) (p : Pk) (c : Cn) : Rs × Pk × Cn :=
  ((subF z n n (rNum z n r).2 []).1, { p with id := (rNum z n r).1, asks := ⟨none, (subF z n n (rNum z n r).2 []).2.length, 0⟩ }, { c with af := fun i => ((subF z n n (rNum z n r).2 []).2.getD i (⟨#[]⟩, 0)).1, aq := fun i => ((subF z n n (rNum z n r).2 []).2.getD i (⟨#[]⟩, 0)).2 })
set_option maxRecDepth 100000 in
set_option maxHeartbeats 4000000 in
theorem sub_any {w0 w : World} {rb g n cp pb : Nat} {z : Nat → Int} {r : Rs} {p : Pk} {c : Cn} (h : Cs w0 w rb g n cp pb z r p c) (hf : p.asks = ⟨none, 0, 0⟩) :
    Calls Tryz.prog 61 #[.agg #[.pointer (some ⟨rb, 0, none⟩), .int .i64 n], .pointer (some ⟨pb, 0, none⟩)] w fun e w' => e = .returned (.tuple #[]) ∧ Done w0 w' rb g n cp pb z (subP z n r p c) := by
  have LW : Hid (w0.heap.size ≤ w.heap.size) := h.size
  have LR : Hid (rb < w0.heap.size ∧ pb < w0.heap.size) := ⟨h.lr, h.lp⟩
  have NF : Hid (n ≤ 1000000) := by have := h.rd.rb.few; show n ≤ 1000000; omega
  have XS : Hid (Cs w0 w rb g n cp pb z r p c) := h
  have FN : Hid (p.asks = ⟨none, 0, 0⟩) := hf
  obtain ⟨Y, hY⟩ : ∃ Y, Y = subP z n r p c := ⟨_, rfl⟩
  rw [← hY]
  obtain ⟨t, ht⟩ : ∃ t, t = rNum z n r := ⟨_, rfl⟩
  obtain ⟨U, hU⟩ : ∃ s, s = subF z n n t.2 [] := ⟨_, rfl⟩
  have HS : Hid (Y = (U.1, { p with id := t.1, asks := ⟨none, U.2.length, 0⟩ }, { c with af := fun i => (U.2.getD i (⟨#[]⟩, 0)).1, aq := fun i => (U.2.getD i (⟨#[]⟩, 0)).2 })) := by
    show _ = _
    rw [hY, subP, hU, ht]
  have H1 : Hid (t = rNum z n r) := ht
  have H2 : Hid (U = subF z n n t.2 []) := hU
  clear hY ht hU hf
  obtain ⟨t, r1⟩ := t
  simp only at H2 HS
  have X0 : Hid (Cs w0 (w.alloc (.cells #[.pointer (some ⟨rb, 0, none⟩), .int .i64 n] 100)) rb g n cp pb z r p c) := h.below ((Below.refl _ _).alloc (Nat.le_refl _) _)
  have BX0 : Hid ((w.alloc (.cells #[.pointer (some ⟨rb, 0, none⟩), .int .i64 n] 100)).cell? ⟨w.heap.size, 0, none⟩ = some (.pointer (some ⟨rb, 0, none⟩))) := by show _ = _; simp [go_sem]
  have GB : Hid (0 < n → g < w.heap.size) := fun q => World.block_lt_of_cell? _ _ (h.rd.rb.own.2 0 q)
  clear h
  obtain ⟨i0, hi, hz0, hz1, hz2⟩ := info_parts Tryz.info77
  go_enter Tryz.func61, Tryz.ntmps61
  have bx := BX0.out
  go_wp2_with fail
  go_must (go_at_call 64)
  clear bx
  refine (number_any X0.out.rd).mono ?_
  rw [← H1.out]
  rintro e v1 ⟨rfl, hr, hg⟩
  have X1 : Hid (Cs w0 v1 rb g n cp pb z r1 (p) (c)) := X0.out.read hr hg
  have BX1 : Hid (v1.cell? ⟨w.heap.size, 0, none⟩ = some (.pointer (some ⟨rb, 0, none⟩))) := hg.cell BX0.out (by have := LR.out; have := LW.out; simp; omega)
  have KP1 : Hid (Keep w0.heap.size w v1) := (keep_below ((Below.refl _ _).alloc (Nat.le_refl _) _)).trans (keep_grown hg LR.out.1)
  have BB1 : Hid (v1.heap[w.heap.size]? = some (.cells #[.pointer (some ⟨rb, 0, none⟩), .int .i64 n] 100 (0, 0))) := (hg.block w.heap.size (by simp) (fun q => by cases q; have := LR.out; have := LW.out; omega)).trans (heap_alloc_new w _)
  clear hr hg
  have e21 := X1.out.cell 21 (.int .i64 p.id) rfl
  have z21 := X1.out.frozen 21
  have U1 : Hid (Un w0 w v1 rb g n cp pb z r1 p ⟨none, 0, 0⟩ 77 2 0 []) := ⟨X1.out.co, ⟨rfl, .inl ⟨rfl, rfl⟩⟩, KP1.out, BB1.out, LW.out, GB.out⟩
  have U2 : Hid (Un w0 w (v1.setCell ⟨pb, 21, none⟩ (.int .i64 t)) rb g n cp pb z r1 { p with id := t } ⟨none, 0, 0⟩ 77 2 0 []) := U1.out.set 21 _ _ rfl
  go_wp2_with fail
  clear e21 z21
  go_loopg [] n (fun gg wx => ∃ (r' : Rs) (fs : List (ByteArray × Int)) (s : Sl), Hid (Un w0 w wx rb g n cp pb z r' { p with id := t, asks := s } s 77 2 fs.length (askCells fs)) ∧ Hid (U = subF z n gg r' fs) ∧ Hid (more n r' = true → n ≤ r'.at0 + gg) ∧ Hid (more n r' = true → fs.length ≤ r'.at0))
  case atStart => exact ⟨r1, [], ⟨none, 0, 0⟩, by rw [← FN.out]; exact FN.out ▸ U2.out, H2.out, fun _ => by omega, fun _ => Nat.zero_le _⟩
  case round =>
    obtain ⟨r', fs, s, C0, E0, M0, L0⟩ := hrel
    have b0 := C0.out.bx
    have b1 : wr.cell? ⟨w.heap.size, 1, none⟩ = some (.int .i64 n) := by have q := C0.out.box; simp [World.cell?, q]
    go_wp2_with fail
    go_must (go_at_call 83)
    refine (left_any C0.out.co.rd).mono ?_
    rintro e u1 ⟨rfl, hb⟩
    have C1 : Hid (Un w0 w u1 rb g n cp pb z r' { p with id := t, asks := s } s 77 2 fs.length (askCells fs)) := C0.out.below hb
    clear hb C0 b0 b1
    cases hm : more n r' with
    | true =>
      obtain ⟨tx, htx⟩ : ∃ y, y = rText z n r' := ⟨_, rfl⟩
      obtain ⟨qx, hqx⟩ : ∃ y, y = rByte z n tx.2 := ⟨_, rfl⟩
      have HT : Hid (tx = rText z n r') := htx
      have HQ : Hid (qx = rByte z n tx.2) := hqx
      obtain ⟨gg, hgg⟩ : ∃ gg, gk = gg + 1 := ⟨gk - 1, by have := M0.out hm; have := (more_at hm).2; omega⟩
      have E1 : Hid (U = subF z n gg qx.2 (fs ++ [(tx.1, qx.1)])) := by show _ = _; rw [E0.out, hgg, subF, if_pos hm, hqx, htx]
      have N1 : Hid ((more n qx.2 = true → n ≤ qx.2.at0 + gg) ∧ (more n qx.2 = true → (fs ++ [(tx.1, qx.1)]).length ≤ qx.2.at0)) := by
        refine ⟨fun q => ?_, fun q => ?_⟩
        · have a := M0.out hm; rw [hqx, htx] at q ⊢; have b := sub_on hm q; omega
        · have a := L0.out hm; have b : r'.at0 + 2 ≤ qx.2.at0 := (by rw [hqx, htx] at q ⊢; exact sub_on hm q); simp only [List.length_append, List.length_singleton]; omega
      have ML : Hid (fs.length ≤ 1000000) := by have a := L0.out hm; have b := (more_at hm).2; have := NF.out; show fs.length ≤ 1000000; omega
      clear htx hqx E0 M0 L0
      obtain ⟨tx, r2⟩ := tx
      obtain ⟨qx, r3⟩ := qx
      simp only at E1 N1 HQ
      have bx := C1.out.bx
      go_wp2_with fail
      go_must (go_at_call 79)
      clear bx
      refine (text_any C1.out.co.rd).mono ?_
      rw [← HT.out]
      rintro e u2 ⟨rfl, hr, hg⟩
      have C2 : Hid (Un w0 w u2 rb g n cp pb z r2 { p with id := t, asks := s } s 77 2 fs.length (askCells fs)) := C1.out.read hr hg
      clear hr hg hm
      have bq : 0 ≤ qx ∧ qx ≤ 255 := by have h := rByte_bd (z := z) (n := n) C2.out.co.rd; rw [← HQ.out] at h; exact h
      have hwr : IntKind.i64.wrap qx = qx := wraps_i64 qx bq.1 (by have := bq.2; simp; omega)
      have TX : Hid (Calls Tryz.prog 46 #[.pointer (some ⟨rb, 0, none⟩)] u2.drew fun e w' => e = .returned (.int .u8 qx) ∧ Un w0 w w' rb g n cp pb z r3 { p with id := t, asks := s } s 77 2 fs.length (askCells fs)) := by
        have D1 := C2.out.below ((Below.refl _ _).drew)
        refine (byte_any D1.co.rd).mono ?_
        rw [← HQ.out]
        exact fun e w' ⟨h1, h2, h3⟩ => ⟨h1, D1.read h2 h3⟩
      have c24 : u2.cell? ⟨pb, 22, none⟩ = some (.slice s.a s.n s.c) := C2.out.co.cell 22 _ rfl
      have bx : u2.cell? ⟨w.heap.size, 0, none⟩ = some (.pointer (some ⟨rb, 0, none⟩)) := C2.out.bx
      go_wp2
      first | go_region_law (first | (refine step_push rfl (.tmp 20) (.tmp 27) 35 rfl (w.heap.size + 1) 77 i0 (.agg #[.string ⟨#[]⟩, .int .i64 0]) 2 24 Tryz.underlying35 hi hz0 hz1 hz2 agg_two (by decide) (.slice s.a s.n s.c) fs.length (askCells fs) rfl (C3.out.below ((Below.refl _ _).alloc (Nat.le_refl _) _)).own ⟨u3.heap.size, 0, none⟩ 1 1 [.string tx, .int .i64 qx] rfl (by decide) rfl (cell_two_new _ _ _ _) (by intro u hu; simp at hu; rcases hu with rfl | rfl <;> rfl) (by have := ML.out; unfold maxLen; omega) (by have := ML.out; omega) (by have := lt_of_block C3.out.box; simp; omega) ?_; intro v3 u4 ho hg hne _; obtain ⟨s3, rfl, hs3, hn3⟩ := own_some ho hne; have C4 : Hid (Un w0 w u4 rb g n cp pb z r3 { p with id := t, asks := s } s3 77 2 (fs.length + 1) (askCells fs ++ [.string tx, .int .i64 qx])) := (C3.out.below ((Below.refl _ _).alloc (Nat.le_refl _) _)).app ho hg; clear ho hg hne hs3 hn3; have c24d : u4.cell? ⟨pb, 22, none⟩ = some (.slice s.a s.n s.c) := C4.out.co.cell 22 _ rfl; have z24d := C4.out.co.frozen 22) | (go_simp; go_wp2_with (go_at_call 46; refine TX.out.mono ?_; rintro e u3 ⟨rfl, hX⟩; have C3 : Hid (Un w0 w u3 rb g n cp pb z r3 { p with id := t, asks := s } s 77 2 fs.length (askCells fs)) := hX; clear hX; have c24b : u3.cell? ⟨pb, 22, none⟩ = some (.slice s.a s.n s.c) := C3.out.co.cell 22 _ rfl; have c24c : (u3.alloc (.cells #[.string tx, .int .i64 qx] 77)).cell? ⟨pb, 22, none⟩ = some (.slice s.a s.n s.c) := (C3.out.below ((Below.refl _ _).alloc (Nat.le_refl _) _)).co.cell 22 _ rfl))) | fail
      all_goals go_wp2
      all_goals go_roundg gg
      all_goals first | omega | exact ⟨r3, fs ++ [(tx, qx)], s3, by show Un _ _ _ _ _ _ _ _ _ _ _ _ _ _ _ _; rw [List.length_append, askCells_append]; exact C4.out.set 22 _ _ rfl, E1.out, N1.out.1, N1.out.2⟩
    | false =>
      have HU : Hid (U = (r', fs)) := by show _ = _; rw [E0.out]; exact subF_end _ _ _ hm
      clear hm
      go_wp2
      go_end0
      rw [HS.out, HU.out]
      obtain ⟨q1, q2, q3⟩ := own_as C1.out.own
      have q := In.keep XS.out.inn XS.out.nx C1.out.keep
      have x := XS.out.nx
      exact ⟨rfl, { p with id := t, asks := s }, C1.out.co.cs ⟨q.wP, q.pass, q.mP, q1, q.codes, q.filters⟩ ⟨x.wP, x.pass, x.mP, fun b off e => by have := q3 b off e; have := LW.out; omega, x.codes, x.filters⟩, p.wP, p.pass, p.mP, s, p.codes, p.filters, rfl, rfl, rfl, rfl, q2, rfl, rfl⟩
end Go.Proofs.YtmfbkfgggdkfmaaGreatDoor
