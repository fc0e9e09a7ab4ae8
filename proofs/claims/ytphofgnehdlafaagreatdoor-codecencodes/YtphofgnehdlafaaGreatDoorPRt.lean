import Derived.Test.YtphofgnehdlafaaGreatDoorPFa
import Derived.Test.YtphofgnehdlafaaGreatDoorPWm
import Derived.Deep.LoopGhost
import Derived.Test.YtphofgnehdlafaaGreatDoorPRl
namespace Go.Proofs.YtphofgnehdlafaaGreatDoor.Pkt
open Go Go.RowKit Go.Sort
set_option linter.unusedSimpArgs false
set_option linter.unusedVariables false
set_option maxRecDepth 100000
set_option maxHeartbeats 1000000
theorem cb_lt {w : World} {g : Nat} {x : Int} (h : Cb w g x) : g < w.heap.size := by
 rcases Nat.lt_or_ge g w.heap.size with h1 | h1
 ·
  exact h1
 ·
  unfold Cb at h; rw [Array.getElem?_eq_none h1] at h; cases h
theorem asks_any (w : World) (g : Nat) (x : Int) (s : Sl) (f : Nat → ByteArray) (q : Nat → Int) (h : Cb w g x) (ha : As w s f q) (hd : 0 < s.n → ∀ b off, s.a = some ⟨b, off, none⟩ → b ≠ g) (hs : s.n ≤ 9223372036854775807) (hf : ∀ i, i < s.n → (f i).size ≤ 9223372036854775807) (h2 : x ≤ 1000000000) (h3 : -9223372036854775807 ≤ x) :
    Calls Tryz.prog 138 #[.pointer (some ⟨g, 0, none⟩), .slice s.a s.n s.c] w fun e w' => ∃ y, e = .returned (.tuple #[]) ∧ Cg g y w w' ∧ St x (sumN (fun i => 1 + (f i).size) s.n) y := by
  obtain ⟨aa, an, ac⟩ := s
  simp only at hs hf hd ⊢
  have HA : Hid (As w ⟨aa, an, ac⟩ f q) := ha
  have HC : Hid (Cg g x w w) := Cg.refl h
  have HD : Hid (0 < an → ∀ b off, aa = some ⟨b, off, none⟩ → b ≠ g) := hd
  have HF : Hid (∀ i, i < an → (f i).size ≤ 9223372036854775807) := hf
  have HX : Hid (x ≤ 1000000000 ∧ -9223372036854775807 ≤ x) := ⟨h2, h3⟩
  clear ha h hd hf h2 h3
  go_enter Tryz.func138, Tryz.ntmps138
  go_wp2_with fail
  go_loopg [4] an (fun gg s4 wx => ∃ (k : Nat) (y : Int), s4 = .int .i64 k ∧ k + gg = an ∧ Hid (Cg g y w wx) ∧ Hid (St x (sumN (fun i => 1 + (f i).size) k) y))
  case atStart => exact ⟨0, x, rfl, by omega, HC, ⟨fun _ => by simp [sumN], HX.out.1, HX.out.2⟩⟩
  case round =>
    obtain ⟨k, y, rfl, hkg, C1, S1⟩ := hrel
    by_cases hk : k < an
    · have hk' : (k : Int) < an := by omega
      by_cases hy : 0 ≤ y
      · obtain ⟨b, off, he, hc⟩ : ∃ b off, aa = some ⟨b, off, none⟩ ∧ ∀ i, i < an → (w.cell? ⟨b, off + i * 2, none⟩ = some (.string (f i)) ∧ w.cell? ⟨b, off + i * 2 + 1, none⟩ = some (.int .i64 (q i))) := by
          rcases HA.out.2 with h | h
          · simp only at h; omega
          · exact h
        have hbg := HD.out (by omega) b off he
        subst he
        have hac : an ≤ ac := HA.out.1
        have c0 := C1.out.cell (hc k hk).1 hbg
        have hfk := HF.out k hk
        obtain ⟨gg, hg⟩ : ∃ gg, gk = gg + 1 := ⟨gk - 1, by omega⟩
        clear hc hbg
        go_wp2_with fail
        go_must (go_at_call 30)
        refine (ok_any _ g y C1.out.blk).mono ?_
        rintro e w1 ⟨rfl, hw1⟩
        obtain rfl := hw1.symm
        clear hw1
        rw [decide_eq_true hy]
        go_wp2_with fail
        go_must (go_at_call 136)
        refine (text_any _ g y (f k) C1.out.blk hfk S1.out.2.1 S1.out.2.2).mono ?_
        rintro e w2 ⟨z, rfl, hc2, st2⟩
        have C2 : Hid (Cg g z w w2) := C1.out.trans hc2
        have S2 : Hid (St x (sumN (fun i => 1 + (f i).size) (k + 1)) z) := S1.out.trans st2
        clear hc2 st2 c0
        go_wp2
        go_roundg gg
        case measure => omega
        case rel => exact ⟨k + 1, z, by first | rfl | simp, by omega, C2, S2⟩
      · have HY : Hid (St x (sumN (fun i => 1 + (f i).size) an) y) := ⟨fun h => absurd h hy, S1.out.2⟩
        go_wp2_with fail
        go_must (go_at_call 30)
        refine (ok_any _ g y C1.out.blk).mono ?_
        rintro e w1 ⟨rfl, hw1⟩
        obtain rfl := hw1.symm
        clear hw1
        rw [show decide (0 ≤ y) = false from decide_eq_false (by omega)]
        go_wp2
        go_end0
        first | exact ⟨y, rfl, C1.out, HY.out⟩ | exact ⟨rfl, y, C1.out, HY.out⟩
    · obtain rfl : k = an := by omega
      have hk' : ¬ (k : Int) < k := by omega
      go_wp2
      go_end0
      first | exact ⟨y, rfl, C1.out, S1.out⟩ | exact ⟨rfl, y, C1.out, S1.out⟩
theorem texts_any (w : World) (g : Nat) (x : Int) (s : Sl) (f : Nat → ByteArray) (h : Cb w g x) (ha : Ss w s f) (hd : 0 < s.n → ∀ b off, s.a = some ⟨b, off, none⟩ → b ≠ g) (hs : s.n ≤ 9223372036854775807) (hf : ∀ i, i < s.n → (f i).size ≤ 9223372036854775807) (h2 : x ≤ 1000000000) (h3 : -9223372036854775807 ≤ x) :
    Calls Tryz.prog 140 #[.pointer (some ⟨g, 0, none⟩), .slice s.a s.n s.c] w fun e w' => ∃ y, e = .returned (.tuple #[]) ∧ Cg g y w w' ∧ St x (sumN (fun i => 1 + (f i).size) s.n) y := by
  obtain ⟨aa, an, ac⟩ := s
  simp only at hs hf hd ⊢
  have HA : Hid (Ss w ⟨aa, an, ac⟩ f) := ha
  have HC : Hid (Cg g x w w) := Cg.refl h
  have HD : Hid (0 < an → ∀ b off, aa = some ⟨b, off, none⟩ → b ≠ g) := hd
  have HF : Hid (∀ i, i < an → (f i).size ≤ 9223372036854775807) := hf
  have HX : Hid (x ≤ 1000000000 ∧ -9223372036854775807 ≤ x) := ⟨h2, h3⟩
  clear ha h hd hf h2 h3
  go_enter Tryz.func140, Tryz.ntmps140
  go_wp2_with fail
  go_loopg [4] an (fun gg s4 wx => ∃ (k : Nat) (y : Int), s4 = .int .i64 k ∧ k + gg = an ∧ Hid (Cg g y w wx) ∧ Hid (St x (sumN (fun i => 1 + (f i).size) k) y))
  case atStart => exact ⟨0, x, rfl, by omega, HC, ⟨fun _ => by simp [sumN], HX.out.1, HX.out.2⟩⟩
  case round =>
    obtain ⟨k, y, rfl, hkg, C1, S1⟩ := hrel
    by_cases hk : k < an
    · have hk' : (k : Int) < an := by omega
      by_cases hy : 0 ≤ y
      · obtain ⟨b, off, he, hc⟩ : ∃ b off, aa = some ⟨b, off, none⟩ ∧ ∀ i, i < an → w.cell? ⟨b, off + i, none⟩ = some (.string (f i)) := by
          rcases HA.out.2 with h | h
          · simp only at h; omega
          · exact h
        have hbg := HD.out (by omega) b off he
        subst he
        have hac : an ≤ ac := HA.out.1
        have c0 := C1.out.cell (hc k hk) hbg
        have hfk := HF.out k hk
        obtain ⟨gg, hg⟩ : ∃ gg, gk = gg + 1 := ⟨gk - 1, by omega⟩
        clear hc hbg
        go_wp2_with fail
        go_must (go_at_call 30)
        refine (ok_any _ g y C1.out.blk).mono ?_
        rintro e w1 ⟨rfl, hw1⟩
        obtain rfl := hw1.symm
        clear hw1
        rw [decide_eq_true hy]
        go_wp2_with fail
        go_must (go_at_call 136)
        refine (text_any _ g y (f k) C1.out.blk hfk S1.out.2.1 S1.out.2.2).mono ?_
        rintro e w2 ⟨z, rfl, hc2, st2⟩
        have C2 : Hid (Cg g z w w2) := C1.out.trans hc2
        have S2 : Hid (St x (sumN (fun i => 1 + (f i).size) (k + 1)) z) := S1.out.trans st2
        clear hc2 st2 c0
        go_wp2
        go_roundg gg
        case measure => omega
        case rel => exact ⟨k + 1, z, by first | rfl | simp, by omega, C2, S2⟩
      · have HY : Hid (St x (sumN (fun i => 1 + (f i).size) an) y) := ⟨fun h => absurd h hy, S1.out.2⟩
        go_wp2_with fail
        go_must (go_at_call 30)
        refine (ok_any _ g y C1.out.blk).mono ?_
        rintro e w1 ⟨rfl, hw1⟩
        obtain rfl := hw1.symm
        clear hw1
        rw [show decide (0 ≤ y) = false from decide_eq_false (by omega)]
        go_wp2
        go_end0
        first | exact ⟨y, rfl, C1.out, HY.out⟩ | exact ⟨rfl, y, C1.out, HY.out⟩
    · obtain rfl : k = an := by omega
      have hk' : ¬ (k : Int) < k := by omega
      go_wp2
      go_end0
      first | exact ⟨y, rfl, C1.out, S1.out⟩ | exact ⟨rfl, y, C1.out, S1.out⟩
structure Off (g : Nat) (p : Pk) : Prop where
 asks : 0 < p.asks.n → ∀ b off, p.asks.a = some ⟨b, off, none⟩ → b ≠ g
 filters : 0 < p.filters.n → ∀ b off, p.filters.a = some ⟨b, off, none⟩ → b ≠ g
structure Fit (p : Pk) (c : Cn) : Prop where
 cl : p.client.size ≤ 9223372036854775807
 us : p.user.size ≤ 9223372036854775807
 wt : p.wT.size ≤ 9223372036854775807
 mt : p.mT.size ≤ 9223372036854775807
 wp : p.wP.n ≤ 9223372036854775807
 ps : p.pass.n ≤ 9223372036854775807
 mp : p.mP.n ≤ 9223372036854775807
 an : p.asks.n ≤ 9223372036854775807
 cn : p.codes.n ≤ 9223372036854775807
 fn : p.filters.n ≤ 9223372036854775807
 af : ∀ i, i < p.asks.n → (c.af i).size ≤ 9223372036854775807
 fs : ∀ i, i < p.filters.n → (c.fs i).size ≤ 9223372036854775807
def parts (p : Pk) (c : Cn) : Nat := 1 + p.client.size + (1 + p.user.size) + (1 + p.pass.n) + (1 + p.wT.size + (1 + p.wP.n)) + (1 + p.mT.size + (1 + p.mP.n)) + sumN (fun i => 1 + (c.af i).size) p.asks.n + p.codes.n + sumN (fun i => 1 + (c.fs i).size) p.filters.n
theorem cpacket_any (p : Pk) (c : Cn) (w : World) (g : Nat) (x : Int) (h : Cb w g x) (hin : In w p c) (ho : Off g p) (hf : Fit p c) (h2 : x ≤ 1000000000) (h3 : -9223372036854775807 ≤ x) :
    Calls Tryz.prog 89 #[.pointer (some ⟨g, 0, none⟩), p.v] w fun e w' => ∃ y, e = .returned (.tuple #[]) ∧ Cg g y w w' ∧ St x (parts p c) y := by
  have HX : Hid (x ≤ 1000000000 ∧ -9223372036854775807 ≤ x) := ⟨h2, h3⟩
  have HF : Hid (Fit p c) := hf
  have HO : Hid (Off g p) := ho
  have HA : Hid (∀ w', Cg g x w w' ∨ True → ∀ y, Cg g y w w' → As w' p.asks c.af c.aq) := fun w' _ y hc => by
    obtain ⟨h1, h2 | ⟨b, off, e, h2⟩⟩ := hin.asks
    · exact ⟨h1, .inl h2⟩
    · exact ⟨h1, .inr ⟨b, off, e, fun i hi => ⟨hc.cell (h2 i hi).1 (ho.asks (by omega) b off e), hc.cell (h2 i hi).2 (ho.asks (by omega) b off e)⟩⟩⟩
  have HS : Hid (∀ w', Cg g x w w' ∨ True → ∀ y, Cg g y w w' → Ss w' p.filters c.fs) := fun w' _ y hc => by
    obtain ⟨h1, h2 | ⟨b, off, e, h2⟩⟩ := hin.filters
    · exact ⟨h1, .inl h2⟩
    · exact ⟨h1, .inr ⟨b, off, e, fun i hi => hc.cell (h2 i hi) (ho.filters (by omega) b off e)⟩⟩
  have hn : Hid (g ≠ w.heap.size) := Nat.ne_of_lt (cb_lt h)
  obtain ⟨cs, hcs⟩ : ∃ cs, cs = pkCells p := ⟨_, rfl⟩
  rw [show p.v = .agg cs by rw [hcs]; rfl]
  have a0 : Hid (cs[0]? = some (.int .i64 p.kind)) := by show _ = _; rw [hcs]; rfl
  have a1 : Hid (cs[1]? = some (.int .i64 p.level)) := by show _ = _; rw [hcs]; rfl
  have a2 : Hid (cs[2]? = some (.bool p.clean)) := by show _ = _; rw [hcs]; rfl
  have a3 : Hid (cs[3]? = some (.int .i64 p.keep)) := by show _ = _; rw [hcs]; rfl
  have a4 : Hid (cs[4]? = some (.string p.client)) := by show _ = _; rw [hcs]; rfl
  have a5 : Hid (cs[5]? = some (.bool p.hasWill)) := by show _ = _; rw [hcs]; rfl
  have a6 : Hid (cs[6]? = some (.string p.wT)) := by show _ = _; rw [hcs]; rfl
  have a7 : Hid (cs[7]? = some (.slice p.wP.a p.wP.n p.wP.c)) := by show _ = _; rw [hcs]; rfl
  have a8 : Hid (cs[8]? = some (.int .i64 p.wQ)) := by show _ = _; rw [hcs]; rfl
  have a9 : Hid (cs[9]? = some (.bool p.wR)) := by show _ = _; rw [hcs]; rfl
  have a10 : Hid (cs[10]? = some (.bool p.hasUser)) := by show _ = _; rw [hcs]; rfl
  have a11 : Hid (cs[11]? = some (.string p.user)) := by show _ = _; rw [hcs]; rfl
  have a12 : Hid (cs[12]? = some (.bool p.hasPass)) := by show _ = _; rw [hcs]; rfl
  have a13 : Hid (cs[13]? = some (.slice p.pass.a p.pass.n p.pass.c)) := by show _ = _; rw [hcs]; rfl
  have a14 : Hid (cs[14]? = some (.bool p.present)) := by show _ = _; rw [hcs]; rfl
  have a15 : Hid (cs[15]? = some (.int .i64 p.code)) := by show _ = _; rw [hcs]; rfl
  have a16 : Hid (cs[16]? = some (.bool p.dup)) := by show _ = _; rw [hcs]; rfl
  have a17 : Hid (cs[17]? = some (.string p.mT)) := by show _ = _; rw [hcs]; rfl
  have a18 : Hid (cs[18]? = some (.slice p.mP.a p.mP.n p.mP.c)) := by show _ = _; rw [hcs]; rfl
  have a19 : Hid (cs[19]? = some (.int .i64 p.mQ)) := by show _ = _; rw [hcs]; rfl
  have a20 : Hid (cs[20]? = some (.bool p.mR)) := by show _ = _; rw [hcs]; rfl
  have a21 : Hid (cs[21]? = some (.int .i64 p.id)) := by show _ = _; rw [hcs]; rfl
  have a22 : Hid (cs[22]? = some (.slice p.asks.a p.asks.n p.asks.c)) := by show _ = _; rw [hcs]; rfl
  have a23 : Hid (cs[23]? = some (.slice p.codes.a p.codes.n p.codes.c)) := by show _ = _; rw [hcs]; rfl
  have a24 : Hid (cs[24]? = some (.slice p.filters.a p.filters.n p.filters.c)) := by show _ = _; rw [hcs]; rfl
  clear hcs
  have C0 : Hid (Cg g x w (w.alloc (.cells cs 29))) := (Cg.refl h).alloc _
  have FA : Hid (∀ k v, cs[k]? = some v → ∀ w' y, Cg g y (w.alloc (.cells cs 29)) w' → w'.cell? ⟨w.heap.size, k, none⟩ = some v) := fun k v hk w' y hc => hc.cell (box_cell w cs 29 k v hk) (fun e => hn.out e.symm)
  have R0 : Hid (Cg g x (w.alloc (.cells cs 29)) (w.alloc (.cells cs 29))) := Cg.refl C0.out.blk
  clear h hin ho hf h2 h3
  have f4 := FA.out 4 _ a4.out _ x R0.out
  go_enter Tryz.func89, Tryz.ntmps89
  go_wp2_with fail
  go_must (go_at_call 136)
  refine (text_any _ g x p.client C0.out.blk HF.out.cl HX.out.1 HX.out.2).mono ?_
  rintro e w1 ⟨y1, rfl, hc, st⟩
  have C1 : Hid (Cg g y1 w w1) := C0.out.trans hc
  have R1 : Hid (Cg g y1 (w.alloc (.cells cs 29)) w1) := R0.out.trans hc
  have S1 : Hid (St x ((1 + p.client.size)) y1) := st
  clear hc st
  have f11 := FA.out 11 _ a11.out w1 y1 R1.out
  go_wp2_with fail
  go_must (go_at_call 136)
  refine (text_any w1 g y1 p.user C1.out.blk HF.out.us S1.out.2.1 S1.out.2.2).mono ?_
  rintro e w2 ⟨y2, rfl, hc, st⟩
  have C2 : Hid (Cg g y2 w w2) := C1.out.trans hc
  have R2 : Hid (Cg g y2 (w.alloc (.cells cs 29)) w2) := R1.out.trans hc
  have S2 : Hid (St x ((1 + p.client.size) + (1 + p.user.size)) y2) := S1.out.trans st
  clear hc st
  have f13 := FA.out 13 _ a13.out w2 y2 R2.out
  go_wp2_with fail
  go_must (go_at_call 102)
  refine (bytes_any w2 g y2 p.pass C2.out.blk HF.out.ps S2.out.2.1 S2.out.2.2).mono ?_
  rintro e w3 ⟨y3, rfl, hc, st⟩
  have C3 : Hid (Cg g y3 w w3) := C2.out.trans hc
  have R3 : Hid (Cg g y3 (w.alloc (.cells cs 29)) w3) := R2.out.trans hc
  have S3 : Hid (St x ((1 + p.client.size) + (1 + p.user.size) + (1 + p.pass.n)) y3) := S2.out.trans st
  clear hc st
  have f6 := FA.out 6 _ a6.out w3 y3 R3.out
  have f7 := FA.out 7 _ a7.out w3 y3 R3.out
  have f8 := FA.out 8 _ a8.out w3 y3 R3.out
  have f9 := FA.out 9 _ a9.out w3 y3 R3.out
  go_wp2_with fail
  go_must (go_at_call 137)
  refine (message_any w3 g y3 p.wT p.wP p.wQ p.wR C3.out.blk HF.out.wt HF.out.wp S3.out.2.1 S3.out.2.2).mono ?_
  rintro e w4 ⟨y4, rfl, hc, st⟩
  have C4 : Hid (Cg g y4 w w4) := C3.out.trans hc
  have R4 : Hid (Cg g y4 (w.alloc (.cells cs 29)) w4) := R3.out.trans hc
  have S4 : Hid (St x ((1 + p.client.size) + (1 + p.user.size) + (1 + p.pass.n) + (1 + p.wT.size + (1 + p.wP.n))) y4) := S3.out.trans st
  clear hc st
  have f17 := FA.out 17 _ a17.out w4 y4 R4.out
  have f18 := FA.out 18 _ a18.out w4 y4 R4.out
  have f19 := FA.out 19 _ a19.out w4 y4 R4.out
  have f20 := FA.out 20 _ a20.out w4 y4 R4.out
  go_wp2_with fail
  go_must (go_at_call 137)
  refine (message_any w4 g y4 p.mT p.mP p.mQ p.mR C4.out.blk HF.out.mt HF.out.mp S4.out.2.1 S4.out.2.2).mono ?_
  rintro e w5 ⟨y5, rfl, hc, st⟩
  have C5 : Hid (Cg g y5 w w5) := C4.out.trans hc
  have R5 : Hid (Cg g y5 (w.alloc (.cells cs 29)) w5) := R4.out.trans hc
  have S5 : Hid (St x ((1 + p.client.size) + (1 + p.user.size) + (1 + p.pass.n) + (1 + p.wT.size + (1 + p.wP.n)) + (1 + p.mT.size + (1 + p.mP.n))) y5) := S4.out.trans st
  clear hc st
  have f22 := FA.out 22 _ a22.out w5 y5 R5.out
  go_wp2_with fail
  go_must (go_at_call 138)
  refine (asks_any w5 g y5 p.asks c.af c.aq C5.out.blk (HA.out _ (.inr trivial) _ C5.out) HO.out.asks HF.out.an HF.out.af S5.out.2.1 S5.out.2.2).mono ?_
  rintro e w6 ⟨y6, rfl, hc, st⟩
  have C6 : Hid (Cg g y6 w w6) := C5.out.trans hc
  have R6 : Hid (Cg g y6 (w.alloc (.cells cs 29)) w6) := R5.out.trans hc
  have S6 : Hid (St x ((1 + p.client.size) + (1 + p.user.size) + (1 + p.pass.n) + (1 + p.wT.size + (1 + p.wP.n)) + (1 + p.mT.size + (1 + p.mP.n)) + sumN (fun i => 1 + (c.af i).size) p.asks.n) y6) := S5.out.trans st
  clear hc st
  have f23 := FA.out 23 _ a23.out w6 y6 R6.out
  go_wp2_with fail
  go_must (go_at_call 139)
  refine (addN_any w6 g y6 p.codes.n C6.out.blk HF.out.cn S6.out.2.1 S6.out.2.2).mono ?_
  rintro e w7 ⟨y7, bb, rfl, hc, st⟩
  have C7 : Hid (Cg g y7 w w7) := C6.out.trans hc
  have R7 : Hid (Cg g y7 (w.alloc (.cells cs 29)) w7) := R6.out.trans hc
  have S7 : Hid (St x ((1 + p.client.size) + (1 + p.user.size) + (1 + p.pass.n) + (1 + p.wT.size + (1 + p.wP.n)) + (1 + p.mT.size + (1 + p.mP.n)) + sumN (fun i => 1 + (c.af i).size) p.asks.n + p.codes.n) y7) := S6.out.trans st
  clear hc st
  have f24 := FA.out 24 _ a24.out w7 y7 R7.out
  go_wp2_with fail
  go_must (go_at_call 140)
  refine (texts_any w7 g y7 p.filters c.fs C7.out.blk (HS.out _ (.inr trivial) _ C7.out) HO.out.filters HF.out.fn HF.out.fs S7.out.2.1 S7.out.2.2).mono ?_
  rintro e w8 ⟨y8, rfl, hc, st⟩
  have C8 : Hid (Cg g y8 w w8) := C7.out.trans hc
  have R8 : Hid (Cg g y8 (w.alloc (.cells cs 29)) w8) := R7.out.trans hc
  have S8 : Hid (St x ((1 + p.client.size) + (1 + p.user.size) + (1 + p.pass.n) + (1 + p.wT.size + (1 + p.wP.n)) + (1 + p.mT.size + (1 + p.mP.n)) + sumN (fun i => 1 + (c.af i).size) p.asks.n + p.codes.n + sumN (fun i => 1 + (c.fs i).size) p.filters.n) y8) := S7.out.trans st
  clear hc st
  go_wp2
  go_end0
  exact ⟨y8, rfl, C8.out, S8.out⟩
theorem many_any (n : Int) (w : World) : Calls Tryz.prog 27 #[.int .i64 n] w fun e w' => e = .returned (.pointer (some ⟨w.heap.size, 0, none⟩)) ∧ w' = w.alloc (.cells #[.int .i64 n] 129) := by
 go_enter Tryz.func27, Tryz.ntmps27
 go_wp2
 go_ret
 exact ⟨rfl, rfl⟩
theorem sumN_scale (f g : Nat → Nat) (k n : Nat) (h : ∀ i, i < n → f i ≤ k * g i) : sumN f n ≤ k * sumN g n := by
 induction n with
 | zero => simp [sumN]
 | succ n ih =>
  have h1 := ih (fun i hi => h i (by omega))
  have h2 := h n (by omega)
  simp only [sumN, Nat.mul_add]
  omega
theorem sumN_many (f : Nat → Nat) (n : Nat) (h : ∀ i, i < n → 1 ≤ f i) : n ≤ sumN f n := by
 induction n with
 | zero => simp [sumN]
 | succ n ih =>
  have h1 := ih (fun i hi => h i (by omega))
  have h2 := h n (by omega)
  simp only [sumN]
  omega
theorem small_of {p : Pk} {c : Cn} (h : parts p c ≤ 300000) : Small p c := by
 have a1 := sumN_scale (fun i => 3 + (c.af i).size) (fun i => 1 + (c.af i).size) 3 p.asks.n (fun i _ => by show 3 + (c.af i).size ≤ 3 * (1 + (c.af i).size); omega)
 have a2 := sumN_scale (fun i => 2 + (c.fs i).size) (fun i => 1 + (c.fs i).size) 2 p.filters.n (fun i _ => by show 2 + (c.fs i).size ≤ 2 * (1 + (c.fs i).size); omega)
 have a3 := sumN_many (fun i => 1 + (c.af i).size) p.asks.n (fun i _ => by show 1 ≤ 1 + (c.af i).size; omega)
 have a4 := sumN_many (fun i => 1 + (c.fs i).size) p.filters.n (fun i _ => by show 1 ≤ 1 + (c.fs i).size; omega)
 unfold parts at h
 constructor <;> omega
theorem length_any (p : Pk) (c : Cn) (w : World) (hg : Gd w) (hin : In w p c) (hs : Small p c) : Calls Tryz.prog 142 #[p.v] w fun e w' => e = .returned (.int .i64 (if ck TT p c = 0 then sz p c else 0)) ∧ Below w.heap.size w w' := by
 have HG : Hid (Gd w) := hg
 have HI : Hid (In w p c) := hin
 have HS : Hid (Small p c) := hs
 clear hg hin hs
 have HC : Hid (∀ w', Below w.heap.size w w' → Calls Tryz.prog 141 #[p.v] w' fun e w'' => e = .returned (.int .i64 (ck TT p c)) ∧ Below w'.heap.size w' w'') := fun w' hb => check_any p c w' (HG.out.below hb) (HI.out.below hb) HS.out
 have HZ : Hid (ck TT p c = 0 → ∀ w', Below w.heap.size w w' → Calls Tryz.prog 218 #[p.v] w' fun e w'' => e = .returned (.int .i64 (sz p c)) ∧ Below w'.heap.size w' w'') := fun h w' hb => size_any p c w' HS.out (HI.out.below hb) ((ck_right TT p c).1 h).k1 ((ck_right TT p c).1 h).k2 (HG.out.below hb).kinds
 obtain ⟨cs, hcs⟩ : ∃ cs, cs = pkCells p := ⟨_, rfl⟩
 rw [show p.v = .agg cs by rw [hcs]; rfl] at HC HZ ⊢
 have hsz : Hid (cs.size = 25) := by show _ = _; rw [hcs]; rfl
 clear hcs
 obtain ⟨W, hW⟩ : ∃ W, W = w.alloc (.cells cs 29) := ⟨_, rfl⟩
 have b0 : Hid (Below w.heap.size w W) := box_below hW
 have g0 : Hid (W.heap[w.heap.size]? = some (.cells cs 29)) := by show _ = _; rw [hW]; exact heap_alloc_new w _
 obtain ⟨k0, hk0⟩ : ∃ k0, k0 = ck TT p c := ⟨_, rfl⟩
 rw [← hk0] at HC HZ ⊢
 obtain ⟨R, hR⟩ : ∃ R : Int, R = (if k0 = 0 then (sz p c : Int) else 0) := ⟨_, rfl⟩
 rw [← hR]
 clear hk0
 go_enter Tryz.func142, Tryz.ntmps142
 go_upto_region 1 with fail
 rw [← hW]
 clear hW
 go_wp2_with (first | (refine wpList_load_wanted rfl _ rfl w.heap.size rfl _ (0, 0) g0.out hsz.out ?_) | fail)
 go_must (go_at_call 141)
 refine (HC.out _ b0.out).mono ?_
 rintro e w1 ⟨rfl, hb⟩
 have b1 : Hid (Below w.heap.size w w1) := b0.out.trans (hb.mono b0.out.size)
 have g1 : Hid (w1.heap[w.heap.size]? = some (.cells cs 29)) := (hb.block _ (block_lt g0.out)).trans g0.out
 clear hb
 by_cases h : k0 = 0
 ·
  have HZ2 := HZ.out h w1 b1.out
  have HR : Hid (R = sz p c) := by show _ = _; rw [hR, if_pos h]
  clear hR
  subst h
  go_wp2_with (first | (refine wpList_load_wanted rfl _ rfl w.heap.size rfl _ (0, 0) g1.out hsz.out ?_) | fail)
  go_must (go_at_call 218)
  refine HZ2.mono ?_
  rintro e w2 ⟨rfl, hb⟩
  have b2 : Hid (Below w.heap.size w w2) := b1.out.trans (hb.mono b1.out.size)
  clear hb
  go_wp2
  go_ret
  exact ⟨by rw [HR.out]; rfl, b2.out⟩
 ·
  have q : ((k0 : Int) != 0) = true := by simpa using h
  have HR : Hid (R = 0) := by show _ = _; rw [hR, if_neg h]
  clear hR h
  go_wp2
  go_ret
  exact ⟨by rw [HR.out]; rfl, b1.out⟩
def fg (p : Pk) : Int := bits .or .i64 (bits .or .i64 (bits .or .i64 (form p.kind.toNat).2.1 (mkI p.dup 8)) (2 * p.mQ)) (mkI p.mR 1)
theorem Right.q2 {T : Tx} {p : Pk} {c : Cn} (h : Right T p c) : p.mQ = 0 ∨ p.mQ = 1 ∨ p.mQ = 2 := by
 have := h.ql
 simp [qls, isQ] at this
 omega
theorem flags_any (p : Pk) (c : Cn) (w : World) (hg : Gd w) (hin : In w p c) (hs : Small p c) (hr : Right TT p c) : Calls Tryz.prog 143 #[p.v] w fun e w' => e = .returned (.int .i64 (fg p)) ∧ Below w.heap.size w w' := by
 have HG : Hid (Gd w) := hg
 have HK1 : Hid (1 ≤ p.kind) := hr.k1
 have HK2 : Hid (p.kind ≤ 14) := hr.k2
 have HQ := hr.q2
 have HC : Hid (∀ w', Below w.heap.size w w' → Calls Tryz.prog 141 #[p.v] w' fun e w'' => e = .returned (.int .i64 (0 : Nat)) ∧ Below w'.heap.size w' w'') := fun w' hb => by
  have := check_any p c w' (hg.below hb) (hin.below hb) hs
  rw [(ck_right TT p c).2 hr] at this
  exact this
 clear hg hin hs hr
 obtain ⟨cs, hcs⟩ : ∃ cs, cs = pkCells p := ⟨_, rfl⟩
 rw [show p.v = .agg cs by rw [hcs]; rfl] at HC ⊢
 obtain ⟨kind, level, clean, keep, client, hasWill, wT, wP, wQ, wR, hasUser, user, hasPass, pass, present, code, dup, mT, mP, mQ, mR, id, asks, codes, filters⟩ := p
 simp only at HK1 HK2 HQ
 obtain ⟨i, rfl⟩ : ∃ i : Nat, kind = i := ⟨kind.toNat, by have := HK1.out; omega⟩
 have hi : i < 15 := by have := HK2.out; omega
 have hi' : (i : Int) < 15 := by omega
 have a0 : Hid (cs[0]? = some (.int .i64 (i : Int))) := by show _ = _; rw [hcs]; rfl
 have a16 : Hid (cs[16]? = some (.bool dup)) := by show _ = _; rw [hcs]; rfl
 have a19 : Hid (cs[19]? = some (.int .i64 mQ)) := by show _ = _; rw [hcs]; rfl
 have a20 : Hid (cs[20]? = some (.bool mR)) := by show _ = _; rw [hcs]; rfl
 have hsz : Hid (cs.size = 25) := by show _ = _; rw [hcs]; rfl
 clear hcs
 obtain ⟨R, hR⟩ : ∃ R : Int, R = fg ⟨i, level, clean, keep, client, hasWill, wT, wP, wQ, wR, hasUser, user, hasPass, pass, present, code, dup, mT, mP, mQ, mR, id, asks, codes, filters⟩ := ⟨_, rfl⟩
 rw [← hR]
 have HR : Hid (R = bits .or .i64 (bits .or .i64 (bits .or .i64 (form i).2.1 (mkI dup 8)) (2 * mQ)) (mkI mR 1)) := hR
 clear hR
 obtain ⟨W, hW⟩ : ∃ W, W = w.alloc (.cells cs 29) := ⟨_, rfl⟩
 have b0 : Hid (Below w.heap.size w W) := box_below hW
 have g0 : Hid (W.heap[w.heap.size]? = some (.cells cs 29)) := by show _ = _; rw [hW]; exact heap_alloc_new w _
 have FA : Hid (∀ k v, cs[k]? = some v → ∀ w', Below W.heap.size W w' → w'.cell? ⟨w.heap.size, k, none⟩ = some v) := fun k v h w' hb => cell_later hb (by rw [hW]; exact box_cell w cs 29 k v h)
 go_enter Tryz.func143, Tryz.ntmps143
 go_upto_region 1 with fail
 rw [← hW]
 clear hW
 go_wp2_with (first | (refine wpList_load_wanted rfl _ rfl w.heap.size rfl _ (0, 0) g0.out hsz.out ?_) | fail)
 go_must (go_at_call 141)
 refine (HC.out _ b0.out).mono ?_
 rintro e w1 ⟨rfl, hb⟩
 have b1 : Hid (Below w.heap.size w w1) := b0.out.trans (hb.mono b0.out.size)
 have k0 : ∀ d os, (grow (redrawn w1 d) os).cell? ⟨w.heap.size, 0, none⟩ = some (.int .i64 (i : Int)) := fun d os => cell_later (below_regrown w1 d os) (FA.out 0 _ a0.out w1 hb)
 have k16 : ∀ d os, (grow (redrawn w1 d) os).cell? ⟨w.heap.size, 16, none⟩ = some (.bool dup) := fun d os => cell_later (below_regrown w1 d os) (FA.out 16 _ a16.out w1 hb)
 have k19 : ∀ d os, (grow (redrawn w1 d) os).cell? ⟨w.heap.size, 19, none⟩ = some (.int .i64 mQ) := fun d os => cell_later (below_regrown w1 d os) (FA.out 19 _ a19.out w1 hb)
 have k20 : ∀ d os, (grow (redrawn w1 d) os).cell? ⟨w.heap.size, 20, none⟩ = some (.bool mR) := fun d os => cell_later (below_regrown w1 d os) (FA.out 20 _ a20.out w1 hb)
 have kf : ∀ d os, (grow (redrawn w1 d) os).cell? ⟨0, i * 3 + 1, none⟩ = some (.int .i64 (form i).2.1) := fun d os => cell_later (below_regrown w1 d os) ((HG.out.below b1.out).kinds i hi).2.1
 clear hb
 go_upto_region 3 with fail
 refine wp_region_quiet_below (by kernel_rfl) (by kernel_rfl) ?_
 rcases HQ with rfl | rfl | rfl
 all_goals
  repeat (quiet_step ((go_at_call 219; exact Calls.regrown_of (mark_int _ _ _))))
  refine wpQuiet_nil ?_
  rintro _ ⟨⟨d, os⟩, rfl⟩
  go_wp2
  go_ret
  exact ⟨by rw [HR.out]; rfl, b1.out.trans ((below_regrown w1 d os).mono b1.out.size)⟩
theorem below1 (w : World) (o : Obj) : Below w.heap.size w (w.alloc o) := (Below.refl _ _).alloc (Nat.le_refl _) _
def zmsg (t : ByteArray) (n : Nat) (q : Int) (r : Bool) : Bool := decide (t.size = 0) && decide (n = 0) && decide (q = 0) && !r
theorem zero_any (t : ByteArray) (a : Option Addr) (n c : Nat) (q : Int) (r : Bool) (w : World) : Calls Tryz.prog 240 #[.agg #[.string t, .slice a n c, .int .i64 q, .bool r]] w fun e w' => e = .returned (.bool (zmsg t n q r)) ∧ Below w.heap.size w w' := by
 have hE := isEmpty_size t
 by_cases h1 : t.size = 0
 ·
  have hE1 : t.toList.isEmpty = true := by
   rw [h1] at hE; revert hE; cases t.toList.isEmpty <;> simp
  clear hE
  by_cases h2 : n = 0
  ·
   have h2' : ((n : Int) == 0) = true := by simp [h2]
   by_cases h3 : q = 0
   ·
    have h3' : (q == 0) = true := by simp [h3]
    cases r with
    | true =>
     rw [show zmsg t n q true = false by simp [zmsg]]
     clear h1 h2 h3
     go_enter Tryz.func240, Tryz.ntmps240
     go_wp2
     go_ret
     exact ⟨rfl, below1 _ _⟩
    | false =>
     rw [show zmsg t n q false = true by simp [zmsg, h1, h2, h3]]
     clear h1 h2 h3
     go_enter Tryz.func240, Tryz.ntmps240
     go_wp2
     go_ret
     exact ⟨rfl, below1 _ _⟩
   ·
    have h3' : (q == 0) = false := by simp [h3]
    rw [show zmsg t n q r = false by simp [zmsg, h3]]
    clear h1 h2 h3
    go_enter Tryz.func240, Tryz.ntmps240
    go_wp2
    go_ret
    exact ⟨rfl, below1 _ _⟩
  ·
   have h2' : ((n : Int) == 0) = false := by simp [h2]
   rw [show zmsg t n q r = false by simp [zmsg, h2]]
   clear h1 h2
   go_enter Tryz.func240, Tryz.ntmps240
   go_wp2
   go_ret
   exact ⟨rfl, below1 _ _⟩
 ·
  have hE1 : t.toList.isEmpty = false := by
   revert hE; cases t.toList.isEmpty <;> simp [h1]
  clear hE
  rw [show zmsg t n q r = false by simp [zmsg, h1]]
  clear h1
  go_enter Tryz.func240, Tryz.ntmps240
  go_wp2
  go_ret
  exact ⟨rfl, below1 _ _⟩
theorem sameBytes_eq (s s' : Sl) (z : Nat → Int) (w : World) (h : By w s z) (h' : By w s' z) (hn : s.n = s'.n) (hm : s.n ≤ 1000000) :
    Calls Tryz.prog 43 #[.slice s.a s.n s.c, .slice s'.a s'.n s'.c] w fun e w' => e = .returned (.bool true) ∧ Below w.heap.size w w' := by
  obtain ⟨a, n, c⟩ := s
  obtain ⟨a', n', c'⟩ := s'
  simp only at hn hm
  subst hn
  have HA : Hid (By w ⟨a, n, c⟩ z) := h
  have HB : Hid (By w ⟨a', n, c'⟩ z) := h'
  have B0 : Hid (Below w.heap.size w w) := Below.refl _ _
  clear h h'
  go_enter Tryz.func43, Tryz.ntmps43
  go_wp2_with fail
  go_loopg [5] n (fun gg s5 wx => ∃ (k : Nat), s5 = .int .i64 k ∧ k + gg = n ∧ Hid (Below w.heap.size w wx))
  case atStart => exact ⟨0, rfl, by omega, B0⟩
  case round =>
    obtain ⟨k, rfl, hkg, B1⟩ := hrel
    by_cases hk : k < n
    · have hk' : (k : Int) < n := by omega
      obtain ⟨b, off, he, hc⟩ : ∃ b off, a = some ⟨b, off, none⟩ ∧ ∀ i, i < n → w.cell? ⟨b, off + i, none⟩ = some (.int .u8 (z i)) := by
        rcases HA.out.2.2 with h | h
        · simp only at h; omega
        · exact h
      obtain ⟨b', off', he', hc'⟩ : ∃ b off, a' = some ⟨b, off, none⟩ ∧ ∀ i, i < n → w.cell? ⟨b, off + i, none⟩ = some (.int .u8 (z i)) := by
        rcases HB.out.2.2 with h | h
        · simp only at h; omega
        · exact h
      subst he he'
      have hac : n ≤ c := HA.out.1
      have hac' : n ≤ c' := HB.out.1
      have c0 := cell_later B1.out (hc k hk)
      have d0 := cell_later B1.out (hc' k hk)
      obtain ⟨x, hx⟩ : ∃ x, z k = x := ⟨_, rfl⟩
      rw [hx] at c0 d0
      clear hx hc hc'
      obtain ⟨gg, hg⟩ : ∃ gg, gk = gg + 1 := ⟨gk - 1, by omega⟩
      go_wp2_with fail
      go_region
      all_goals
        go_wp2
        go_roundg gg
        case measure => omega
        case rel => exact ⟨k + 1, by first | rfl | simp, by omega, by first | exact B1 | exact B1.out.drew⟩
    · obtain rfl : k = n := by omega
      have hk' : ¬ (k : Int) < k := by omega
      go_wp2
      go_ret
      exact ⟨rfl, B1.out⟩
theorem sameMessage_eq (t : ByteArray) (q : Int) (r : Bool) (s s' : Sl) (z : Nat → Int) (w : World) (h : By w s z) (h' : By w s' z) (hn : s.n = s'.n) (hm : s.n ≤ 1000000) :
    Calls Tryz.prog 42 #[.agg #[.string t, .slice s.a s.n s.c, .int .i64 q, .bool r], .agg #[.string t, .slice s'.a s'.n s'.c, .int .i64 q, .bool r]] w fun e w' => e = .returned (.bool true) ∧ Below w.heap.size w w' := by
  have HC : Hid (∀ w', Below w.heap.size w w' → Calls Tryz.prog 43 #[.slice s.a s.n s.c, .slice s'.a s'.n s'.c] w' fun e w'' => e = .returned (.bool true) ∧ Below w'.heap.size w' w'') := fun w' hb => sameBytes_eq s s' z w' (h.below hb) (h'.below hb) hn hm
  clear h h' hn hm
  go_enter Tryz.func42, Tryz.ntmps42
  go_wp2_with fail
  go_must (go_at_call 43)
  refine (HC.out _ (below2 _ _ _)).mono ?_
  rintro e w1 ⟨rfl, hb⟩
  have B1 : Hid (Below w.heap.size w w1) := (below2 w _ _).trans (hb.mono (below2 w _ _).size)
  clear hb
  go_wp2
  go_ret
  exact ⟨rfl, B1.out⟩
theorem neq_ask (t t' : ByteArray) (q q' : Int) (w : World) : (binOp .neq 98 (.agg #[.string t, .int .i64 q]) (.agg #[.string t', .int .i64 q'])).run Tryz.prog w = .ok (.bool (!((t.toList == t'.toList) && (q == q')))) w := by
 have hu : Tryz.prog.underlying 98 = some (.struct (Tryz.prog.fieldsOf 98)) := by kernel_rfl
 have hp : Tryz.prog.stoodInHeld 98 = false := by kernel_rfl
 rw [run_neq_struct, run_equalIn_agg w 9999 98 _ _ hu hp]
 clear hu hp
 simp only [Program.fieldsOf, Tryz.underlying98]
 cases h1 : (t.toList == t'.toList)
 ·
  go_simp
 ·
  cases h2 : (q == q')
  ·
   go_simp
  ·
   go_simp
theorem neq_ask_eq (t : ByteArray) (q : Int) (w : World) : (binOp .neq 98 (.agg #[.string t, .int .i64 q]) (.agg #[.string t, .int .i64 q])).run Tryz.prog w = .ok (.bool false) w := by
 rw [neq_ask]; simp
def Pk.re (p : Pk) (s1 s2 s3 s4 s5 s6 : Sl) : Pk := { p with wP := s1, pass := s2, mP := s3, asks := s4, codes := s5, filters := s6 }
set_option maxHeartbeats 8000000
theorem rsame_eq (p : Pk) (c : Cn) (s1 s2 s3 s4 s5 s6 : Sl) (w : World) (hb : In w p c) (ha : In w (p.re s1 s2 s3 s4 s5 s6) c) (n1 : s1.n = p.wP.n) (n2 : s2.n = p.pass.n) (n3 : s3.n = p.mP.n) (n4 : s4.n = p.asks.n) (n5 : s5.n = p.codes.n) (n6 : s6.n = p.filters.n) (hs : Small p c) :
    Calls Tryz.prog 12 #[(p.re s1 s2 s3 s4 s5 s6).v, p.v] w fun e w' => e = .returned (.bool true) ∧ Below w.heap.size w w' := by
  have HB : Hid (In w p c) := hb
  have HA : Hid (In w (p.re s1 s2 s3 s4 s5 s6) c) := ha
  have HS : Hid (Small p c) := hs
  have N1 : Hid (s1.n = p.wP.n) := n1
  have N2 : Hid (s2.n = p.pass.n) := n2
  have N3 : Hid (s3.n = p.mP.n) := n3
  have N4 : Hid (s4.n = p.asks.n) := n4
  have N5 : Hid (s5.n = p.codes.n) := n5
  have N6 : Hid (s6.n = p.filters.n) := n6
  have LA : Hid (s4.n ≤ 1000000 ∧ s5.n ≤ 1000000 ∧ s6.n ≤ 1000000) := ⟨by rw [n4]; exact hs.an, by rw [n5]; exact hs.cn, by rw [n6]; exact hs.fn⟩
  clear hb ha hs n1 n2 n3 n4 n5 n6
  obtain ⟨P, hP⟩ : ∃ P, P = pkCells (p.re s1 s2 s3 s4 s5 s6) := ⟨_, rfl⟩
  obtain ⟨Q, hQ⟩ : ∃ Q, Q = pkCells p := ⟨_, rfl⟩
  rw [show (p.re s1 s2 s3 s4 s5 s6).v = .agg P by rw [hP]; rfl, show p.v = .agg Q by rw [hQ]; rfl]
  have HP : Hid (P = pkCells (p.re s1 s2 s3 s4 s5 s6)) := hP
  have HQ : Hid (Q = pkCells p) := hQ
  clear hP hQ
  obtain ⟨V, hV⟩ : ∃ V, V = w.alloc (.cells P 29) := ⟨_, rfl⟩
  obtain ⟨W, hW⟩ : ∃ W, W = V.alloc (.cells Q 29) := ⟨_, rfl⟩
  obtain ⟨g, hg⟩ : ∃ g, g = w.heap.size + 1 := ⟨_, rfl⟩
  have hgV : g = V.heap.size := by rw [hg, hV]; simp
  have bV : Hid (Below w.heap.size w V) := box_below hV
  have bW : Hid (Below V.heap.size V W) := box_below hW
  have b0 : Hid (Below w.heap.size w W) := bV.out.trans (bW.out.mono bV.out.size)
  have FA : Hid (∀ k v, (pkCells (p.re s1 s2 s3 s4 s5 s6))[k]? = some v → ∀ w', Below W.heap.size W w' → w'.cell? ⟨w.heap.size, k, none⟩ = some v) := fun k v h w' hb => cell_later hb (cell_later bW.out (by rw [hV]; exact box_cell w P 29 k v (by rw [HP.out]; exact h)))
  have FB : Hid (∀ k v, (pkCells p)[k]? = some v → ∀ w', Below W.heap.size W w' → w'.cell? ⟨g, k, none⟩ = some v) := fun k v h w' hb => cell_later hb (by rw [hgV, hW]; exact box_cell V Q 29 k v (by rw [HQ.out]; exact h))
  have BW : Hid (∀ w', Below W.heap.size W w' → Below w.heap.size w w') := fun w' hb => b0.out.trans (hb.mono b0.out.size)
  have R0 : Hid (Below W.heap.size W W) := Below.refl _ _
  go_enter Tryz.func12, Tryz.ntmps12
  go_upto_region 1 with fail
  rw [← hV, ← hg, ← hW]
  clear hV hW hg hgV
  have c0 := FA.out 0 (.int .i64 p.kind) rfl W R0.out
  have d0 := FB.out 0 (.int .i64 p.kind) rfl W R0.out
  have c1 := FA.out 1 (.int .i64 p.level) rfl W R0.out
  have d1 := FB.out 1 (.int .i64 p.level) rfl W R0.out
  have c2 := FA.out 2 (.bool p.clean) rfl W R0.out
  have d2 := FB.out 2 (.bool p.clean) rfl W R0.out
  have c3 := FA.out 3 (.int .i64 p.keep) rfl W R0.out
  have d3 := FB.out 3 (.int .i64 p.keep) rfl W R0.out
  have c4 := FA.out 4 (.string p.client) rfl W R0.out
  have d4 := FB.out 4 (.string p.client) rfl W R0.out
  have c5 := FA.out 5 (.bool p.hasWill) rfl W R0.out
  have d5 := FB.out 5 (.bool p.hasWill) rfl W R0.out
  have c10 := FA.out 10 (.bool p.hasUser) rfl W R0.out
  have d10 := FB.out 10 (.bool p.hasUser) rfl W R0.out
  have c11 := FA.out 11 (.string p.user) rfl W R0.out
  have d11 := FB.out 11 (.string p.user) rfl W R0.out
  have c12 := FA.out 12 (.bool p.hasPass) rfl W R0.out
  have d12 := FB.out 12 (.bool p.hasPass) rfl W R0.out
  go_upto_region 3 with fail
  clear c0 d0 c1 d1 c2 d2 c3 d3 c4 d4 c5 d5 c10 d10 c11 d11 c12 d12
  have c14 := FA.out 14 (.bool p.present) rfl W R0.out
  have d14 := FB.out 14 (.bool p.present) rfl W R0.out
  have c15 := FA.out 15 (.int .i64 p.code) rfl W R0.out
  have d15 := FB.out 15 (.int .i64 p.code) rfl W R0.out
  have c16 := FA.out 16 (.bool p.dup) rfl W R0.out
  have d16 := FB.out 16 (.bool p.dup) rfl W R0.out
  have c21 := FA.out 21 (.int .i64 p.id) rfl W R0.out
  have d21 := FB.out 21 (.int .i64 p.id) rfl W R0.out
  have c6 := FA.out 6 (.string p.wT) rfl W R0.out
  have d6 := FB.out 6 (.string p.wT) rfl W R0.out
  have c7 := FA.out 7 (.slice s1.a s1.n s1.c) rfl W R0.out
  have d7 := FB.out 7 (.slice p.wP.a p.wP.n p.wP.c) rfl W R0.out
  have c8 := FA.out 8 (.int .i64 p.wQ) rfl W R0.out
  have d8 := FB.out 8 (.int .i64 p.wQ) rfl W R0.out
  have c9 := FA.out 9 (.bool p.wR) rfl W R0.out
  have d9 := FB.out 9 (.bool p.wR) rfl W R0.out
  go_wp2_with fail
  go_must (go_at_call 42)
  refine (sameMessage_eq _ _ _ s1 p.wP c.wz _ (HA.out.wP.below b0.out) (HB.out.wP.below b0.out) N1.out (by rw [N1.out]; exact HS.out.wp)).mono ?_
  rintro e w1 ⟨rfl, hb⟩
  have B1 : Hid (Below W.heap.size W w1) := hb
  clear hb
  clear c14 d14 c15 d15 c16 d16 c21 d21 c6 d6 c7 d7 c8 d8 c9 d9
  have c17 := FA.out 17 (.string p.mT) rfl w1 B1.out
  have d17 := FB.out 17 (.string p.mT) rfl w1 B1.out
  have c18 := FA.out 18 (.slice s3.a s3.n s3.c) rfl w1 B1.out
  have d18 := FB.out 18 (.slice p.mP.a p.mP.n p.mP.c) rfl w1 B1.out
  have c19 := FA.out 19 (.int .i64 p.mQ) rfl w1 B1.out
  have d19 := FB.out 19 (.int .i64 p.mQ) rfl w1 B1.out
  have c20 := FA.out 20 (.bool p.mR) rfl w1 B1.out
  have d20 := FB.out 20 (.bool p.mR) rfl w1 B1.out
  go_wp2_with fail
  go_must (go_at_call 42)
  refine (sameMessage_eq _ _ _ s3 p.mP c.mz _ (HA.out.mP.below (BW.out _ B1.out)) (HB.out.mP.below (BW.out _ B1.out)) N3.out (by rw [N3.out]; exact HS.out.mp)).mono ?_
  rintro e w2 ⟨rfl, hb⟩
  have B2 : Hid (Below W.heap.size W w2) := B1.out.trans (hb.mono B1.out.size)
  clear hb
  clear c17 d17 c18 d18 c19 d19 c20 d20
  have c13 := FA.out 13 (.slice s2.a s2.n s2.c) rfl w2 B2.out
  have d13 := FB.out 13 (.slice p.pass.a p.pass.n p.pass.c) rfl w2 B2.out
  go_wp2_with fail
  go_must (go_at_call 43)
  refine (sameBytes_eq s2 p.pass c.pz _ (HA.out.pass.below (BW.out _ B2.out)) (HB.out.pass.below (BW.out _ B2.out)) N2.out (by rw [N2.out]; exact HS.out.ps)).mono ?_
  rintro e w3 ⟨rfl, hb⟩
  have B3 : Hid (Below W.heap.size W w3) := B2.out.trans (hb.mono B2.out.size)
  clear hb
  clear c13 d13
  have c22 := FA.out 22 (.slice s4.a s4.n s4.c) rfl w3 B3.out
  have d22 := FB.out 22 (.slice p.asks.a p.asks.n p.asks.c) rfl w3 B3.out
  have c23 := FA.out 23 (.slice s5.a s5.n s5.c) rfl w3 B3.out
  have d23 := FB.out 23 (.slice p.codes.a p.codes.n p.codes.c) rfl w3 B3.out
  have c24 := FA.out 24 (.slice s6.a s6.n s6.c) rfl w3 B3.out
  have d24 := FB.out 24 (.slice p.filters.a p.filters.n p.filters.c) rfl w3 B3.out
  rw [← N4.out] at d22
  rw [← N5.out] at d23
  rw [← N6.out] at d24
  go_wp2_with fail
  clear c22 d22 c23 d23 c24 d24
  go_loopg [5] s4.n (fun gg sx wx => ∃ (k : Nat), sx = .int .i64 k ∧ k + gg = s4.n ∧ Hid (Below W.heap.size W wx))
  case atStart => exact ⟨0, rfl, by omega, B3⟩
  case round =>
    obtain ⟨k, rfl, hkg, B5⟩ := hrel
    have c22 := FA.out 22 (.slice s4.a s4.n s4.c) rfl _ B5.out
    have d22 := FB.out 22 (.slice p.asks.a p.asks.n p.asks.c) rfl _ B5.out
    rw [← N4.out] at d22
    by_cases hk : k < s4.n
    · have hk' : (k : Int) < s4.n := by omega
      obtain ⟨b, off, he, hc⟩ : ∃ b off, s4.a = some ⟨b, off, none⟩ ∧ ∀ i, i < s4.n → (w.cell? ⟨b, off + i * 2, none⟩ = some (.string (c.af i)) ∧ w.cell? ⟨b, off + i * 2 + 1, none⟩ = some (.int .i64 (c.aq i))) := by
        rcases (HA.out.asks).2 with h | h
        · have h' : s4.n = 0 := h
          omega
        · exact h
      obtain ⟨b', off', he', hc'⟩ : ∃ b off, p.asks.a = some ⟨b, off, none⟩ ∧ ∀ i, i < p.asks.n → (w.cell? ⟨b, off + i * 2, none⟩ = some (.string (c.af i)) ∧ w.cell? ⟨b, off + i * 2 + 1, none⟩ = some (.int .i64 (c.aq i))) := by
        rcases (HB.out.asks).2 with h | h
        · have h' := N4.out
          omega
        · exact h
      have hac : s4.n ≤ s4.c := HA.out.asks.1
      have hac' : s4.n ≤ p.asks.c := by rw [N4.out]; exact HB.out.asks.1
      rw [he] at c22
      rw [he'] at d22
      have hk2 : k < p.asks.n := by rw [← N4.out]; exact hk
      have e0 := cell_later (BW.out _ B5.out) (hc k hk).1
      have e1 := cell_later (BW.out _ B5.out) (hc k hk).2
      have f0 := cell_later (BW.out _ B5.out) (hc' k hk2).1
      have f1 := cell_later (BW.out _ B5.out) (hc' k hk2).2
      obtain ⟨x, hx⟩ : ∃ x, c.af k = x := ⟨_, rfl⟩
      obtain ⟨y, hy⟩ : ∃ x, c.aq k = x := ⟨_, rfl⟩
      rw [hx] at e0 f0
      rw [hy] at e1 f1
      clear hx hy
      have EQ := neq_ask_eq x y
      have EG : Tryz.prog.eqGuardType Tryz.prog.depth 98 = false := by kernel_rfl
      clear he he' hc hc' hk2
      have hlim := LA.out
      obtain ⟨gg, hgg⟩ : ∃ gg, gk = gg + 1 := ⟨gk - 1, by omega⟩
      go_wp2_with fail
      go_region
      all_goals
        go_wp2
        go_roundg gg
        case measure => omega
        case rel => exact ⟨k + 1, by first | rfl | simp, by omega, by first | exact B5 | exact B5.out.drew⟩
    · obtain rfl : k = s4.n := by omega
      have hk' : ¬ (s4.n : Int) < s4.n := by omega
      go_wp2_with fail
      clear c22 d22 hk hk'
      go_loopg [6] s5.n (fun gg sx wx => ∃ (k : Nat), sx = .int .i64 k ∧ k + gg = s5.n ∧ Hid (Below W.heap.size W wx))
      case atStart => exact ⟨0, rfl, by omega, B5⟩
      case round =>
        obtain ⟨k, rfl, hkg, B6⟩ := hrel
        have c23 := FA.out 23 (.slice s5.a s5.n s5.c) rfl _ B6.out
        have d23 := FB.out 23 (.slice p.codes.a p.codes.n p.codes.c) rfl _ B6.out
        rw [← N5.out] at d23
        by_cases hk : k < s5.n
        · have hk' : (k : Int) < s5.n := by omega
          obtain ⟨b, off, he, hc⟩ : ∃ b off, s5.a = some ⟨b, off, none⟩ ∧ ∀ i, i < s5.n → w.cell? ⟨b, off + i, none⟩ = some (.int .i64 (c.cs i)) := by
            rcases (HA.out.codes).2 with h | h
            · have h' : s5.n = 0 := h
              omega
            · exact h
          obtain ⟨b', off', he', hc'⟩ : ∃ b off, p.codes.a = some ⟨b, off, none⟩ ∧ ∀ i, i < p.codes.n → w.cell? ⟨b, off + i, none⟩ = some (.int .i64 (c.cs i)) := by
            rcases (HB.out.codes).2 with h | h
            · have h' := N5.out
              omega
            · exact h
          have hac : s5.n ≤ s5.c := HA.out.codes.1
          have hac' : s5.n ≤ p.codes.c := by rw [N5.out]; exact HB.out.codes.1
          rw [he] at c23
          rw [he'] at d23
          have hk2 : k < p.codes.n := by rw [← N5.out]; exact hk
          have e0 := cell_later (BW.out _ B6.out) (hc k hk)
          have f0 := cell_later (BW.out _ B6.out) (hc' k hk2)
          obtain ⟨x, hx⟩ : ∃ x, c.cs k = x := ⟨_, rfl⟩
          rw [hx] at e0 f0
          clear hx
          clear he he' hc hc' hk2
          have hlim := LA.out
          obtain ⟨gg, hgg⟩ : ∃ gg, gk = gg + 1 := ⟨gk - 1, by omega⟩
          go_wp2_with fail
          go_region
          all_goals
            go_wp2
            go_roundg gg
            case measure => omega
            case rel => exact ⟨k + 1, by first | rfl | simp, by omega, by first | exact B6 | exact B6.out.drew⟩
        · obtain rfl : k = s5.n := by omega
          have hk' : ¬ (s5.n : Int) < s5.n := by omega
          go_wp2_with fail
          clear c23 d23 hk hk'
          go_loopg [7] s6.n (fun gg sx wx => ∃ (k : Nat), sx = .int .i64 k ∧ k + gg = s6.n ∧ Hid (Below W.heap.size W wx))
          case atStart => exact ⟨0, rfl, by omega, B6⟩
          case round =>
            obtain ⟨k, rfl, hkg, B7⟩ := hrel
            have c24 := FA.out 24 (.slice s6.a s6.n s6.c) rfl _ B7.out
            have d24 := FB.out 24 (.slice p.filters.a p.filters.n p.filters.c) rfl _ B7.out
            rw [← N6.out] at d24
            by_cases hk : k < s6.n
            · have hk' : (k : Int) < s6.n := by omega
              obtain ⟨b, off, he, hc⟩ : ∃ b off, s6.a = some ⟨b, off, none⟩ ∧ ∀ i, i < s6.n → w.cell? ⟨b, off + i, none⟩ = some (.string (c.fs i)) := by
                rcases (HA.out.filters).2 with h | h
                · have h' : s6.n = 0 := h
                  omega
                · exact h
              obtain ⟨b', off', he', hc'⟩ : ∃ b off, p.filters.a = some ⟨b, off, none⟩ ∧ ∀ i, i < p.filters.n → w.cell? ⟨b, off + i, none⟩ = some (.string (c.fs i)) := by
                rcases (HB.out.filters).2 with h | h
                · have h' := N6.out
                  omega
                · exact h
              have hac : s6.n ≤ s6.c := HA.out.filters.1
              have hac' : s6.n ≤ p.filters.c := by rw [N6.out]; exact HB.out.filters.1
              rw [he] at c24
              rw [he'] at d24
              have hk2 : k < p.filters.n := by rw [← N6.out]; exact hk
              have e0 := cell_later (BW.out _ B7.out) (hc k hk)
              have f0 := cell_later (BW.out _ B7.out) (hc' k hk2)
              obtain ⟨x, hx⟩ : ∃ x, c.fs k = x := ⟨_, rfl⟩
              rw [hx] at e0 f0
              clear hx
              clear he he' hc hc' hk2
              have hlim := LA.out
              obtain ⟨gg, hgg⟩ : ∃ gg, gk = gg + 1 := ⟨gk - 1, by omega⟩
              go_wp2_with fail
              go_region
              all_goals
                go_wp2
                go_roundg gg
                case measure => omega
                case rel => exact ⟨k + 1, by first | rfl | simp, by omega, by first | exact B7 | exact B7.out.drew⟩
            · obtain rfl : k = s6.n := by omega
              have hk' : ¬ (s6.n : Int) < s6.n := by omega
              go_wp2
              go_ret
              exact ⟨rfl, BW.out _ B7.out⟩
end Go.Proofs.YtphofgnehdlafaaGreatDoor.Pkt
