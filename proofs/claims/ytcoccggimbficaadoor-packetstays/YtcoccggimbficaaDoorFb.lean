import Derived.Test.YtcoccggimbficaaDoorFa
import Derived.Test.YtcoccggimbficaaDoorWm
import Derived.Deep.LoopGhost
namespace Go.Proofs.YtcoccggimbficaaDoor
open Go Go.RowKit Go.Sort
set_option linter.unusedSimpArgs false
set_option linter.unusedVariables false

theorem cb_lt {w : World} {g : Nat} {x : Int} (h : Cb w g x) : g < w.heap.size := by
  rcases Nat.lt_or_ge g w.heap.size with h1 | h1
  · exact h1
  · unfold Cb at h; rw [Array.getElem?_eq_none h1] at h; cases h

set_option maxHeartbeats 1000000 in
theorem asks_any (w : World) (g : Nat) (x : Int) (s : Sl) (f : Nat → ByteArray) (q : Nat → Int) (h : Cb w g x) (ha : As w s f q) (hd : 0 < s.n → ∀ b off, s.a = some ⟨b, off, none⟩ → b ≠ g) (hs : s.n ≤ 9223372036854775807) (hf : ∀ i, i < s.n → (f i).size ≤ 9223372036854775807) (h2 : x ≤ 1000000000) (h3 : -9223372036854775807 ≤ x) :
    Calls Tryd.prog 58 #[.pointer (some ⟨g, 0, none⟩), .slice s.a s.n s.c] w fun e w' => ∃ y, e = .returned (.tuple #[]) ∧ Cg g y w w' ∧ St x (sumN (fun i => 1 + (f i).size) s.n) y := by
  obtain ⟨aa, an, ac⟩ := s
  simp only at hs hf hd ⊢
  have HA : Hid (As w ⟨aa, an, ac⟩ f q) := ha
  have HC : Hid (Cg g x w w) := Cg.refl h
  have HD : Hid (0 < an → ∀ b off, aa = some ⟨b, off, none⟩ → b ≠ g) := hd
  have HF : Hid (∀ i, i < an → (f i).size ≤ 9223372036854775807) := hf
  have HX : Hid (x ≤ 1000000000 ∧ -9223372036854775807 ≤ x) := ⟨h2, h3⟩
  clear ha h hd hf h2 h3
  go_enter Tryd.func58, Tryd.ntmps58
  go_wp2_with fail
  go_loopg [4] an (fun gg s4 wx => ∃ (k : Nat) (y : Int), s4 = .int .i64 k ∧ k + gg = an ∧ Hid (Cg g y w wx) ∧ Hid (St x (sumN (fun i => 1 + (f i).size) k) y))
  case atStart => exact ⟨0, x, rfl, by omega, HC, ⟨fun _ => by simp [sumN], HX.out.1, HX.out.2⟩⟩
  case round =>
    obtain ⟨k, y, rfl, hkg, C1, S1⟩ := hrel
    by_cases hk : k < an
    · have hk' : (k : Int) < an := by omega
      by_cases hy : 0 ≤ y
      · obtain ⟨b, off, he, hc⟩ : ∃ b off, aa = some ⟨b, off, none⟩ ∧ ∀ i, i < an → (w.cell? ⟨b, off + i * 2, none⟩ = some (.string (f i)) ∧ w.cell? ⟨b, off + i * 2 + 1, none⟩ = some (.int .i64 (q i))) := by
          rcases HA.out.2 with h | h
          · simp only at h; omega
          · exact h
        have hbg := HD.out (by omega) b off he
        subst he
        have hac : an ≤ ac := HA.out.1
        have c0 := C1.out.cell (hc k hk).1 hbg
        have hfk := HF.out k hk
        obtain ⟨gg, hg⟩ : ∃ gg, gk = gg + 1 := ⟨gk - 1, by omega⟩
        clear hc hbg
        go_wp2_with fail
        go_must (go_at_call 41)
        refine (ok_any _ g y C1.out.blk).mono ?_
        rintro e w1 ⟨rfl, hw1⟩
        obtain rfl := hw1.symm
        clear hw1
        rw [decide_eq_true hy]
        go_wp2_with fail
        go_must (go_at_call 55)
        refine (text_any _ g y (f k) C1.out.blk hfk S1.out.2.1 S1.out.2.2).mono ?_
        rintro e w2 ⟨z, rfl, hc2, st2⟩
        have C2 : Hid (Cg g z w w2) := C1.out.trans hc2
        have S2 : Hid (St x (sumN (fun i => 1 + (f i).size) (k + 1)) z) := S1.out.trans st2
        clear hc2 st2 c0
        go_wp2
        go_roundg gg
        case measure => omega
        case rel => exact ⟨k + 1, z, by first | rfl | simp, by omega, C2, S2⟩
      · have HY : Hid (St x (sumN (fun i => 1 + (f i).size) an) y) := ⟨fun h => absurd h hy, S1.out.2⟩
        go_wp2_with fail
        go_must (go_at_call 41)
        refine (ok_any _ g y C1.out.blk).mono ?_
        rintro e w1 ⟨rfl, hw1⟩
        obtain rfl := hw1.symm
        clear hw1
        rw [show decide (0 ≤ y) = false from decide_eq_false (by omega)]
        go_wp2
        go_end0
        first | exact ⟨y, rfl, C1.out, HY.out⟩ | exact ⟨rfl, y, C1.out, HY.out⟩
    · obtain rfl : k = an := by omega
      have hk' : ¬ (k : Int) < k := by omega
      go_wp2
      go_end0
      first | exact ⟨y, rfl, C1.out, S1.out⟩ | exact ⟨rfl, y, C1.out, S1.out⟩

set_option maxHeartbeats 1000000 in
theorem texts_any (w : World) (g : Nat) (x : Int) (s : Sl) (f : Nat → ByteArray) (h : Cb w g x) (ha : Ss w s f) (hd : 0 < s.n → ∀ b off, s.a = some ⟨b, off, none⟩ → b ≠ g) (hs : s.n ≤ 9223372036854775807) (hf : ∀ i, i < s.n → (f i).size ≤ 9223372036854775807) (h2 : x ≤ 1000000000) (h3 : -9223372036854775807 ≤ x) :
    Calls Tryd.prog 60 #[.pointer (some ⟨g, 0, none⟩), .slice s.a s.n s.c] w fun e w' => ∃ y, e = .returned (.tuple #[]) ∧ Cg g y w w' ∧ St x (sumN (fun i => 1 + (f i).size) s.n) y := by
  obtain ⟨aa, an, ac⟩ := s
  simp only at hs hf hd ⊢
  have HA : Hid (Ss w ⟨aa, an, ac⟩ f) := ha
  have HC : Hid (Cg g x w w) := Cg.refl h
  have HD : Hid (0 < an → ∀ b off, aa = some ⟨b, off, none⟩ → b ≠ g) := hd
  have HF : Hid (∀ i, i < an → (f i).size ≤ 9223372036854775807) := hf
  have HX : Hid (x ≤ 1000000000 ∧ -9223372036854775807 ≤ x) := ⟨h2, h3⟩
  clear ha h hd hf h2 h3
  go_enter Tryd.func60, Tryd.ntmps60
  go_wp2_with fail
  go_loopg [4] an (fun gg s4 wx => ∃ (k : Nat) (y : Int), s4 = .int .i64 k ∧ k + gg = an ∧ Hid (Cg g y w wx) ∧ Hid (St x (sumN (fun i => 1 + (f i).size) k) y))
  case atStart => exact ⟨0, x, rfl, by omega, HC, ⟨fun _ => by simp [sumN], HX.out.1, HX.out.2⟩⟩
  case round =>
    obtain ⟨k, y, rfl, hkg, C1, S1⟩ := hrel
    by_cases hk : k < an
    · have hk' : (k : Int) < an := by omega
      by_cases hy : 0 ≤ y
      · obtain ⟨b, off, he, hc⟩ : ∃ b off, aa = some ⟨b, off, none⟩ ∧ ∀ i, i < an → w.cell? ⟨b, off + i, none⟩ = some (.string (f i)) := by
          rcases HA.out.2 with h | h
          · simp only at h; omega
          · exact h
        have hbg := HD.out (by omega) b off he
        subst he
        have hac : an ≤ ac := HA.out.1
        have c0 := C1.out.cell (hc k hk) hbg
        have hfk := HF.out k hk
        obtain ⟨gg, hg⟩ : ∃ gg, gk = gg + 1 := ⟨gk - 1, by omega⟩
        clear hc hbg
        go_wp2_with fail
        go_must (go_at_call 41)
        refine (ok_any _ g y C1.out.blk).mono ?_
        rintro e w1 ⟨rfl, hw1⟩
        obtain rfl := hw1.symm
        clear hw1
        rw [decide_eq_true hy]
        go_wp2_with fail
        go_must (go_at_call 55)
        refine (text_any _ g y (f k) C1.out.blk hfk S1.out.2.1 S1.out.2.2).mono ?_
        rintro e w2 ⟨z, rfl, hc2, st2⟩
        have C2 : Hid (Cg g z w w2) := C1.out.trans hc2
        have S2 : Hid (St x (sumN (fun i => 1 + (f i).size) (k + 1)) z) := S1.out.trans st2
        clear hc2 st2 c0
        go_wp2
        go_roundg gg
        case measure => omega
        case rel => exact ⟨k + 1, z, by first | rfl | simp, by omega, C2, S2⟩
      · have HY : Hid (St x (sumN (fun i => 1 + (f i).size) an) y) := ⟨fun h => absurd h hy, S1.out.2⟩
        go_wp2_with fail
        go_must (go_at_call 41)
        refine (ok_any _ g y C1.out.blk).mono ?_
        rintro e w1 ⟨rfl, hw1⟩
        obtain rfl := hw1.symm
        clear hw1
        rw [show decide (0 ≤ y) = false from decide_eq_false (by omega)]
        go_wp2
        go_end0
        first | exact ⟨y, rfl, C1.out, HY.out⟩ | exact ⟨rfl, y, C1.out, HY.out⟩
    · obtain rfl : k = an := by omega
      have hk' : ¬ (k : Int) < k := by omega
      go_wp2
      go_end0
      first | exact ⟨y, rfl, C1.out, S1.out⟩ | exact ⟨rfl, y, C1.out, S1.out⟩

/-- Lists that lie elsewhere. -/
structure Off (g : Nat) (p : Pk) : Prop where
  asks : 0 < p.asks.n → ∀ b off, p.asks.a = some ⟨b, off, none⟩ → b ≠ g
  filters : 0 < p.filters.n → ∀ b off, p.filters.a = some ⟨b, off, none⟩ → b ≠ g
/-- No text, no list is too long for the machine. -/
structure Fit (p : Pk) (c : Cn) : Prop where
  cl : p.client.size ≤ 9223372036854775807
  us : p.user.size ≤ 9223372036854775807
  wt : p.wT.size ≤ 9223372036854775807
  mt : p.mT.size ≤ 9223372036854775807
  wp : p.wP.n ≤ 9223372036854775807
  ps : p.pass.n ≤ 9223372036854775807
  mp : p.mP.n ≤ 9223372036854775807
  an : p.asks.n ≤ 9223372036854775807
  cn : p.codes.n ≤ 9223372036854775807
  fn : p.filters.n ≤ 9223372036854775807
  af : ∀ i, i < p.asks.n → (c.af i).size ≤ 9223372036854775807
  fs : ∀ i, i < p.filters.n → (c.fs i).size ≤ 9223372036854775807
/-- How many parts a packet has. -/
def parts (p : Pk) (c : Cn) : Nat := 1 + p.client.size + (1 + p.user.size) + (1 + p.pass.n) + (1 + p.wT.size + (1 + p.wP.n)) + (1 + p.mT.size + (1 + p.mP.n)) + sumN (fun i => 1 + (c.af i).size) p.asks.n + p.codes.n + sumN (fun i => 1 + (c.fs i).size) p.filters.n

set_option maxHeartbeats 1000000 in
set_option maxRecDepth 100000 in
theorem cpacket_any (p : Pk) (c : Cn) (w : World) (g : Nat) (x : Int) (h : Cb w g x) (hin : In w p c) (ho : Off g p) (hf : Fit p c) (h2 : x ≤ 1000000000) (h3 : -9223372036854775807 ≤ x) :
    Calls Tryd.prog 49 #[.pointer (some ⟨g, 0, none⟩), p.v] w fun e w' => ∃ y, e = .returned (.tuple #[]) ∧ Cg g y w w' ∧ St x (parts p c) y := by
  have HX : Hid (x ≤ 1000000000 ∧ -9223372036854775807 ≤ x) := ⟨h2, h3⟩
  have HF : Hid (Fit p c) := hf
  have HO : Hid (Off g p) := ho
  have HA : Hid (∀ w', Cg g x w w' ∨ True → ∀ y, Cg g y w w' → As w' p.asks c.af c.aq) := fun w' _ y hc => by
    obtain ⟨h1, h2 | ⟨b, off, e, h2⟩⟩ := hin.asks
    · exact ⟨h1, .inl h2⟩
    · exact ⟨h1, .inr ⟨b, off, e, fun i hi => ⟨hc.cell (h2 i hi).1 (ho.asks (by omega) b off e), hc.cell (h2 i hi).2 (ho.asks (by omega) b off e)⟩⟩⟩
  have HS : Hid (∀ w', Cg g x w w' ∨ True → ∀ y, Cg g y w w' → Ss w' p.filters c.fs) := fun w' _ y hc => by
    obtain ⟨h1, h2 | ⟨b, off, e, h2⟩⟩ := hin.filters
    · exact ⟨h1, .inl h2⟩
    · exact ⟨h1, .inr ⟨b, off, e, fun i hi => hc.cell (h2 i hi) (ho.filters (by omega) b off e)⟩⟩
  have hn : Hid (g ≠ w.heap.size) := Nat.ne_of_lt (cb_lt h)
  obtain ⟨cs, hcs⟩ : ∃ cs, cs = pkCells p := ⟨_, rfl⟩
  rw [show p.v = .agg cs by rw [hcs]; rfl]
  have a0 : Hid (cs[0]? = some (.int .i64 p.kind)) := by show _ = _; rw [hcs]; rfl
  have a1 : Hid (cs[1]? = some (.int .i64 p.level)) := by show _ = _; rw [hcs]; rfl
  have a2 : Hid (cs[2]? = some (.bool p.clean)) := by show _ = _; rw [hcs]; rfl
  have a3 : Hid (cs[3]? = some (.int .i64 p.keep)) := by show _ = _; rw [hcs]; rfl
  have a4 : Hid (cs[4]? = some (.string p.client)) := by show _ = _; rw [hcs]; rfl
  have a5 : Hid (cs[5]? = some (.bool p.hasWill)) := by show _ = _; rw [hcs]; rfl
  have a6 : Hid (cs[6]? = some (.string p.wT)) := by show _ = _; rw [hcs]; rfl
  have a7 : Hid (cs[7]? = some (.slice p.wP.a p.wP.n p.wP.c)) := by show _ = _; rw [hcs]; rfl
  have a8 : Hid (cs[8]? = some (.int .i64 p.wQ)) := by show _ = _; rw [hcs]; rfl
  have a9 : Hid (cs[9]? = some (.bool p.wR)) := by show _ = _; rw [hcs]; rfl
  have a10 : Hid (cs[10]? = some (.bool p.hasUser)) := by show _ = _; rw [hcs]; rfl
  have a11 : Hid (cs[11]? = some (.string p.user)) := by show _ = _; rw [hcs]; rfl
  have a12 : Hid (cs[12]? = some (.bool p.hasPass)) := by show _ = _; rw [hcs]; rfl
  have a13 : Hid (cs[13]? = some (.slice p.pass.a p.pass.n p.pass.c)) := by show _ = _; rw [hcs]; rfl
  have a14 : Hid (cs[14]? = some (.bool p.present)) := by show _ = _; rw [hcs]; rfl
  have a15 : Hid (cs[15]? = some (.int .i64 p.code)) := by show _ = _; rw [hcs]; rfl
  have a16 : Hid (cs[16]? = some (.bool p.dup)) := by show _ = _; rw [hcs]; rfl
  have a17 : Hid (cs[17]? = some (.string p.mT)) := by show _ = _; rw [hcs]; rfl
  have a18 : Hid (cs[18]? = some (.slice p.mP.a p.mP.n p.mP.c)) := by show _ = _; rw [hcs]; rfl
  have a19 : Hid (cs[19]? = some (.int .i64 p.mQ)) := by show _ = _; rw [hcs]; rfl
  have a20 : Hid (cs[20]? = some (.bool p.mR)) := by show _ = _; rw [hcs]; rfl
  have a21 : Hid (cs[21]? = some (.int .i64 p.id)) := by show _ = _; rw [hcs]; rfl
  have a22 : Hid (cs[22]? = some (.slice p.asks.a p.asks.n p.asks.c)) := by show _ = _; rw [hcs]; rfl
  have a23 : Hid (cs[23]? = some (.slice p.codes.a p.codes.n p.codes.c)) := by show _ = _; rw [hcs]; rfl
  have a24 : Hid (cs[24]? = some (.slice p.filters.a p.filters.n p.filters.c)) := by show _ = _; rw [hcs]; rfl
  clear hcs
  have C0 : Hid (Cg g x w (w.alloc (.cells cs 31))) := (Cg.refl h).alloc _
  have FA : Hid (∀ k v, cs[k]? = some v → ∀ w' y, Cg g y (w.alloc (.cells cs 31)) w' → w'.cell? ⟨w.heap.size, k, none⟩ = some v) := fun k v hk w' y hc => hc.cell (box_cell w cs 31 k v hk) (fun e => hn.out e.symm)
  have R0 : Hid (Cg g x (w.alloc (.cells cs 31)) (w.alloc (.cells cs 31))) := Cg.refl C0.out.blk
  clear h hin ho hf h2 h3
  have f4 := FA.out 4 _ a4.out _ x R0.out
  go_enter Tryd.func49, Tryd.ntmps49
  go_wp2_with fail
  go_must (go_at_call 55)
  refine (text_any _ g x p.client C0.out.blk HF.out.cl HX.out.1 HX.out.2).mono ?_
  rintro e w1 ⟨y1, rfl, hc, st⟩
  have C1 : Hid (Cg g y1 w w1) := C0.out.trans hc
  have R1 : Hid (Cg g y1 (w.alloc (.cells cs 31)) w1) := R0.out.trans hc
  have S1 : Hid (St x ((1 + p.client.size)) y1) := st
  clear hc st
  have f11 := FA.out 11 _ a11.out w1 y1 R1.out
  go_wp2_with fail
  go_must (go_at_call 55)
  refine (text_any w1 g y1 p.user C1.out.blk HF.out.us S1.out.2.1 S1.out.2.2).mono ?_
  rintro e w2 ⟨y2, rfl, hc, st⟩
  have C2 : Hid (Cg g y2 w w2) := C1.out.trans hc
  have R2 : Hid (Cg g y2 (w.alloc (.cells cs 31)) w2) := R1.out.trans hc
  have S2 : Hid (St x ((1 + p.client.size) + (1 + p.user.size)) y2) := S1.out.trans st
  clear hc st
  have f13 := FA.out 13 _ a13.out w2 y2 R2.out
  go_wp2_with fail
  go_must (go_at_call 56)
  refine (bytes_any w2 g y2 p.pass C2.out.blk HF.out.ps S2.out.2.1 S2.out.2.2).mono ?_
  rintro e w3 ⟨y3, rfl, hc, st⟩
  have C3 : Hid (Cg g y3 w w3) := C2.out.trans hc
  have R3 : Hid (Cg g y3 (w.alloc (.cells cs 31)) w3) := R2.out.trans hc
  have S3 : Hid (St x ((1 + p.client.size) + (1 + p.user.size) + (1 + p.pass.n)) y3) := S2.out.trans st
  clear hc st
  have f6 := FA.out 6 _ a6.out w3 y3 R3.out
  have f7 := FA.out 7 _ a7.out w3 y3 R3.out
  have f8 := FA.out 8 _ a8.out w3 y3 R3.out
  have f9 := FA.out 9 _ a9.out w3 y3 R3.out
  go_wp2_with fail
  go_must (go_at_call 57)
  refine (message_any w3 g y3 p.wT p.wP p.wQ p.wR C3.out.blk HF.out.wt HF.out.wp S3.out.2.1 S3.out.2.2).mono ?_
  rintro e w4 ⟨y4, rfl, hc, st⟩
  have C4 : Hid (Cg g y4 w w4) := C3.out.trans hc
  have R4 : Hid (Cg g y4 (w.alloc (.cells cs 31)) w4) := R3.out.trans hc
  have S4 : Hid (St x ((1 + p.client.size) + (1 + p.user.size) + (1 + p.pass.n) + (1 + p.wT.size + (1 + p.wP.n))) y4) := S3.out.trans st
  clear hc st
  have f17 := FA.out 17 _ a17.out w4 y4 R4.out
  have f18 := FA.out 18 _ a18.out w4 y4 R4.out
  have f19 := FA.out 19 _ a19.out w4 y4 R4.out
  have f20 := FA.out 20 _ a20.out w4 y4 R4.out
  go_wp2_with fail
  go_must (go_at_call 57)
  refine (message_any w4 g y4 p.mT p.mP p.mQ p.mR C4.out.blk HF.out.mt HF.out.mp S4.out.2.1 S4.out.2.2).mono ?_
  rintro e w5 ⟨y5, rfl, hc, st⟩
  have C5 : Hid (Cg g y5 w w5) := C4.out.trans hc
  have R5 : Hid (Cg g y5 (w.alloc (.cells cs 31)) w5) := R4.out.trans hc
  have S5 : Hid (St x ((1 + p.client.size) + (1 + p.user.size) + (1 + p.pass.n) + (1 + p.wT.size + (1 + p.wP.n)) + (1 + p.mT.size + (1 + p.mP.n))) y5) := S4.out.trans st
  clear hc st
  have f22 := FA.out 22 _ a22.out w5 y5 R5.out
  go_wp2_with fail
  go_must (go_at_call 58)
  refine (asks_any w5 g y5 p.asks c.af c.aq C5.out.blk (HA.out _ (.inr trivial) _ C5.out) HO.out.asks HF.out.an HF.out.af S5.out.2.1 S5.out.2.2).mono ?_
  rintro e w6 ⟨y6, rfl, hc, st⟩
  have C6 : Hid (Cg g y6 w w6) := C5.out.trans hc
  have R6 : Hid (Cg g y6 (w.alloc (.cells cs 31)) w6) := R5.out.trans hc
  have S6 : Hid (St x ((1 + p.client.size) + (1 + p.user.size) + (1 + p.pass.n) + (1 + p.wT.size + (1 + p.wP.n)) + (1 + p.mT.size + (1 + p.mP.n)) + sumN (fun i => 1 + (c.af i).size) p.asks.n) y6) := S5.out.trans st
  clear hc st
  have f23 := FA.out 23 _ a23.out w6 y6 R6.out
  go_wp2_with fail
  go_must (go_at_call 59)
  refine (addN_any w6 g y6 p.codes.n C6.out.blk HF.out.cn S6.out.2.1 S6.out.2.2).mono ?_
  rintro e w7 ⟨y7, bb, rfl, hc, st⟩
  have C7 : Hid (Cg g y7 w w7) := C6.out.trans hc
  have R7 : Hid (Cg g y7 (w.alloc (.cells cs 31)) w7) := R6.out.trans hc
  have S7 : Hid (St x ((1 + p.client.size) + (1 + p.user.size) + (1 + p.pass.n) + (1 + p.wT.size + (1 + p.wP.n)) + (1 + p.mT.size + (1 + p.mP.n)) + sumN (fun i => 1 + (c.af i).size) p.asks.n + p.codes.n) y7) := S6.out.trans st
  clear hc st
  have f24 := FA.out 24 _ a24.out w7 y7 R7.out
  go_wp2_with fail
  go_must (go_at_call 60)
  refine (texts_any w7 g y7 p.filters c.fs C7.out.blk (HS.out _ (.inr trivial) _ C7.out) HO.out.filters HF.out.fn HF.out.fs S7.out.2.1 S7.out.2.2).mono ?_
  rintro e w8 ⟨y8, rfl, hc, st⟩
  have C8 : Hid (Cg g y8 w w8) := C7.out.trans hc
  have R8 : Hid (Cg g y8 (w.alloc (.cells cs 31)) w8) := R7.out.trans hc
  have S8 : Hid (St x ((1 + p.client.size) + (1 + p.user.size) + (1 + p.pass.n) + (1 + p.wT.size + (1 + p.wP.n)) + (1 + p.mT.size + (1 + p.mP.n)) + sumN (fun i => 1 + (c.af i).size) p.asks.n + p.codes.n + sumN (fun i => 1 + (c.fs i).size) p.filters.n) y8) := S7.out.trans st
  clear hc st
  go_wp2
  go_end0
  exact ⟨y8, rfl, C8.out, S8.out⟩
end Go.Proofs.YtcoccggimbficaaDoor
