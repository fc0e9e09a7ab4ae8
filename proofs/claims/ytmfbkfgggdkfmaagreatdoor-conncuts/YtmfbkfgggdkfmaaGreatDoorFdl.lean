import Derived.Test.YtmfbkfgggdkfmaaGreatDoorFdk
namespace Go.Proofs.YtmfbkfgggdkfmaaGreatDoor
open Go Go.RowKit
open Pkt (Pk Cn Sl In By Is Ss As pkCells)
set_option linter.unusedSimpArgs false
set_option linter.unusedVariables false

section
variable {w0 v w' : World} {rb g n cp pb : Nat} {z : Nat → Int} {r r' : Rs} {p p' : Pk} {c c' : Cn}
theorem Cs.self (h : Cs w0 v rb g n cp pb z r p c) (hn : ∀ B, NxAll B p) : Cs v v rb g n cp pb z r p c :=
  ⟨h.rd, h.pk, lt_of_block h.rd.rd, lt_of_block h.pk, h.n1, h.n2, h.inn, hn _, rfl, rfl, rfl, Nat.le_refl _, fun _ _ _ _ => rfl⟩
theorem Nx.lower {B D : Nat} {s : Sl} (h : Nx D s) (hB : B ≤ D) : Nx B s := fun b off e => Nat.le_trans hB (h b off e)
theorem Fr2.trans (h1 : Fr2 w0 v rb pb) (h2 : Fr2 v w' rb pb) : Fr2 w0 w' rb pb :=
  ⟨h2.os.trans h1.os, h2.tape.trans h1.tape, h2.output.trans h1.output, Nat.le_trans h1.size h2.size, fun k hk a b => (h2.block k (Nat.lt_of_lt_of_le hk h1.size) a b).trans (h1.block k hk a b)⟩
theorem Cs.trans (h1 : Cs w0 v rb g n cp pb z r p c) (h2 : Cs v w' rb g n cp pb z r' p' c') : Cs w0 w' rb g n cp pb z r' p' c' :=
  ⟨h2.rd, h2.pk, h1.lr, h1.lp, h1.n1, h1.n2, h2.inn, ⟨h2.nx.wP.lower h1.size, h2.nx.pass.lower h1.size, h2.nx.mP.lower h1.size, h2.nx.asks.lower h1.size, h2.nx.codes.lower h1.size, h2.nx.filters.lower h1.size⟩,
    h2.os.trans h1.os, h2.tape.trans h1.tape, h2.output.trans h1.output, Nat.le_trans h1.size h2.size, fun k hk a b => (h2.block k (Nat.lt_of_lt_of_le hk h1.size) a b).trans (h1.block k hk a b)⟩
theorem OutIs.lower {e : Ending} {R : Except (Int × Int) (Rs × Pk × Cn)} (h1 : Cs w0 v rb g n cp pb z r p c) (h2 : OutIs v w' e rb g n cp pb z R) : OutIs w0 w' e rb g n cp pb z R := by
  cases R with
  | error x => exact ⟨h2.1, h1.fr.trans h2.2⟩
  | ok y => obtain ⟨e, q, hq, ha⟩ := h2; exact ⟨e, q, h1.trans hq, ha⟩
end
def errOut (y : Rs × Pk × Cn) : Except (Int × Int) (Rs × Pk × Cn) := if y.1.q ≠ 0 then .error (y.1.p, y.1.q) else .ok y
/-- A packet of a kind, nothing read of it yet. -/
def blank (k : Int) : Pk := ⟨k, 0, false, 0, ⟨#[]⟩, false, ⟨#[]⟩, ⟨none, 0, 0⟩, 0, false, false, ⟨#[]⟩, false, ⟨none, 0, 0⟩, false, 0, false, ⟨#[]⟩, ⟨none, 0, 0⟩, 0, false, 0, ⟨none, 0, 0⟩, ⟨none, 0, 0⟩, ⟨none, 0, 0⟩⟩
theorem nx_nil (B : Nat) : Nx B ⟨none, 0, 0⟩ := fun b off e => by cases e
theorem nx_blank (k : Int) (B : Nat) : NxAll B (blank k) := ⟨nx_nil B, nx_nil B, nx_nil B, nx_nil B, nx_nil B, nx_nil B⟩
def idP (z : Nat → Int) (n : Nat) (r : Rs) (p : Pk) (c : Cn) : Rs × Pk × Cn := (rEnd n (rNum z n r).2, { p with id := (rNum z n r).1 }, c)

set_option maxRecDepth 100000 in
set_option maxHeartbeats 2000000 in
theorem into_connect {w0 w : World} {rb g n cp pb : Nat} {z : Nat → Int} {r : Rs} {c : Cn} (fl : Int) (h : Cs w0 w rb g n cp pb z r (blank 1) c) :
    Calls Tryz.prog 48 #[.agg #[.pointer (some ⟨rb, 0, none⟩), .int .i64 n], .pointer (some ⟨pb, 0, none⟩), .int .i64 fl] w fun e w' => OutIs w0 w' e rb g n cp pb z (connectP z n r (blank 1) c) := by
  have XW : Hid (Cs w0 (w.alloc (.cells #[.pointer (some ⟨rb, 0, none⟩), .int .i64 n] 100)) rb g n cp pb z r (blank 1) c) := h.below ((Below.refl _ _).alloc (Nat.le_refl _) _)
  have XV : Hid (Cs (w.alloc (.cells #[.pointer (some ⟨rb, 0, none⟩), .int .i64 n] 100)) (w.alloc (.cells #[.pointer (some ⟨rb, 0, none⟩), .int .i64 n] 100)) rb g n cp pb z r (blank 1) c) := XW.out.self (nx_blank 1)
  have LL : Hid (rb < w.heap.size ∧ pb < w.heap.size) := ⟨lt_of_block h.rd.rd, lt_of_block h.pk⟩
  have BX0 : Hid ((w.alloc (.cells #[.pointer (some ⟨rb, 0, none⟩), .int .i64 n] 100)).cell? ⟨w.heap.size, 0, none⟩ = some (.pointer (some ⟨rb, 0, none⟩))) := by show _ = _; simp [go_sem]
  have c0 : (w.alloc (.cells #[.pointer (some ⟨rb, 0, none⟩), .int .i64 n] 100)).cell? ⟨pb, 0, none⟩ = some (.int .i64 1) := XW.out.cell 0 _ rfl
  obtain ⟨R, hR⟩ : ∃ R, R = connectP z n r (blank 1) c := ⟨_, rfl⟩
  rw [← hR]
  have HR : Hid (R = connectP z n r (blank 1) c) := hR
  clear h hR
  go_enter Tryz.func48, Tryz.ntmps48
  go_wp2_with fail
  go_must (go_at_call 58)
  have T := connect_any XV.out
  rw [← HR.out] at T
  refine T.mono ?_
  rintro e w1 hO
  obtain ⟨v, rfl⟩ := hO.ret
  have HO : Hid (OutIs (w.alloc (.cells #[.pointer (some ⟨rb, 0, none⟩), .int .i64 n] 100)) w1 (.returned v) rb g n cp pb z R) := hO
  clear hO T
  go_wp2
  go_ret
  exact OutIs.lower XW.out HO.out

set_option maxRecDepth 100000 in
set_option maxHeartbeats 2000000 in
theorem into_connack {w0 w : World} {rb g n cp pb : Nat} {z : Nat → Int} {r : Rs} {c : Cn} (fl : Int) (h : Cs w0 w rb g n cp pb z r (blank 2) c) :
    Calls Tryz.prog 48 #[.agg #[.pointer (some ⟨rb, 0, none⟩), .int .i64 n], .pointer (some ⟨pb, 0, none⟩), .int .i64 fl] w fun e w' => OutIs w0 w' e rb g n cp pb z (connackP z n r (blank 2) c) := by
  have XW : Hid (Cs w0 (w.alloc (.cells #[.pointer (some ⟨rb, 0, none⟩), .int .i64 n] 100)) rb g n cp pb z r (blank 2) c) := h.below ((Below.refl _ _).alloc (Nat.le_refl _) _)
  have XV : Hid (Cs (w.alloc (.cells #[.pointer (some ⟨rb, 0, none⟩), .int .i64 n] 100)) (w.alloc (.cells #[.pointer (some ⟨rb, 0, none⟩), .int .i64 n] 100)) rb g n cp pb z r (blank 2) c) := XW.out.self (nx_blank 2)
  have LL : Hid (rb < w.heap.size ∧ pb < w.heap.size) := ⟨lt_of_block h.rd.rd, lt_of_block h.pk⟩
  have BX0 : Hid ((w.alloc (.cells #[.pointer (some ⟨rb, 0, none⟩), .int .i64 n] 100)).cell? ⟨w.heap.size, 0, none⟩ = some (.pointer (some ⟨rb, 0, none⟩))) := by show _ = _; simp [go_sem]
  have c0 : (w.alloc (.cells #[.pointer (some ⟨rb, 0, none⟩), .int .i64 n] 100)).cell? ⟨pb, 0, none⟩ = some (.int .i64 2) := XW.out.cell 0 _ rfl
  obtain ⟨R, hR⟩ : ∃ R, R = connackP z n r (blank 2) c := ⟨_, rfl⟩
  rw [← hR]
  have HR : Hid (R = connackP z n r (blank 2) c) := hR
  clear h hR
  go_enter Tryz.func48, Tryz.ntmps48
  go_wp2_with fail
  go_must (go_at_call 59)
  have T := connack_any XV.out
  rw [← HR.out] at T
  refine T.mono ?_
  rintro e w1 hO
  obtain ⟨v, rfl⟩ := hO.ret
  have HO : Hid (OutIs (w.alloc (.cells #[.pointer (some ⟨rb, 0, none⟩), .int .i64 n] 100)) w1 (.returned v) rb g n cp pb z R) := hO
  clear hO T
  go_wp2
  go_ret
  exact OutIs.lower XW.out HO.out

set_option maxRecDepth 100000 in
set_option maxHeartbeats 2000000 in
theorem into_publish {w0 w : World} {rb g n cp pb : Nat} {z : Nat → Int} {r : Rs} {c : Cn} (fl : Int) (h : Cs w0 w rb g n cp pb z r (blank 3) c) :
    Calls Tryz.prog 48 #[.agg #[.pointer (some ⟨rb, 0, none⟩), .int .i64 n], .pointer (some ⟨pb, 0, none⟩), .int .i64 fl] w fun e w' => OutIs w0 w' e rb g n cp pb z (errOut (publishP z n r (blank 3) c fl)) := by
  have XW : Hid (Cs w0 (w.alloc (.cells #[.pointer (some ⟨rb, 0, none⟩), .int .i64 n] 100)) rb g n cp pb z r (blank 3) c) := h.below ((Below.refl _ _).alloc (Nat.le_refl _) _)
  have XV : Hid (Cs (w.alloc (.cells #[.pointer (some ⟨rb, 0, none⟩), .int .i64 n] 100)) (w.alloc (.cells #[.pointer (some ⟨rb, 0, none⟩), .int .i64 n] 100)) rb g n cp pb z r (blank 3) c) := XW.out.self (nx_blank 3)
  have LL : Hid (rb < w.heap.size ∧ pb < w.heap.size) := ⟨lt_of_block h.rd.rd, lt_of_block h.pk⟩
  have BX0 : Hid ((w.alloc (.cells #[.pointer (some ⟨rb, 0, none⟩), .int .i64 n] 100)).cell? ⟨w.heap.size, 0, none⟩ = some (.pointer (some ⟨rb, 0, none⟩))) := by show _ = _; simp [go_sem]
  have c0 : (w.alloc (.cells #[.pointer (some ⟨rb, 0, none⟩), .int .i64 n] 100)).cell? ⟨pb, 0, none⟩ = some (.int .i64 3) := XW.out.cell 0 _ rfl
  obtain ⟨R, hR⟩ : ∃ R, R = errOut (publishP z n r (blank 3) c fl) := ⟨_, rfl⟩
  rw [← hR]
  have HR : Hid (R = errOut (publishP z n r (blank 3) c fl)) := hR
  clear h hR
  go_enter Tryz.func48, Tryz.ntmps48
  obtain ⟨Y, hY⟩ : ∃ Y, Y = publishP z n r (blank 3) c fl := ⟨_, rfl⟩
  rw [← hY] at HR
  have DD : Hid (Calls Tryz.prog 60 #[.agg #[.pointer (some ⟨rb, 0, none⟩), .int .i64 n], .pointer (some ⟨pb, 0, none⟩), .int .i64 fl] (w.alloc (.cells #[.pointer (some ⟨rb, 0, none⟩), .int .i64 n] 100)) fun e w' => e = .returned (.tuple #[]) ∧ Done (w.alloc (.cells #[.pointer (some ⟨rb, 0, none⟩), .int .i64 n] 100)) w' rb g n cp pb z Y) := by rw [hY]; exact publish_any fl XV.out
  clear hY
  go_wp2_with fail
  go_must (go_at_call 60)
  refine DD.out.mono ?_
  rintro e w1 ⟨rfl, q, hq, ha⟩
  have X1 : Hid (Cs (w.alloc (.cells #[.pointer (some ⟨rb, 0, none⟩), .int .i64 n] 100)) w1 rb g n cp pb z Y.1 q Y.2.2) := hq
  have AL : Hid (Alike q Y.2.1) := ha
  have BX1 : Hid (w1.cell? ⟨w.heap.size, 0, none⟩ = some (.pointer (some ⟨rb, 0, none⟩))) := by
    have q2 := hq.block w.heap.size (by simp) (by have := LL.out; omega) (by have := LL.out; omega)
    have q3 := BX0.out
    show _ = _
    unfold World.cell? at q3 ⊢
    rw [show ({ block := w.heap.size, off := 0 } : Addr).block = w.heap.size from rfl, q2]
    exact q3
  clear hq ha DD
  have bx := BX1.out
  go_wp2_with fail
  go_must (go_at_call 66)
  clear bx
  have T := err_out X1.out (Y.2.1) AL.out
  have EE : R = if (Y.1).q ≠ 0 then .error ((Y.1).p, (Y.1).q) else .ok (Y.1, Y.2.1, Y.2.2) := HR.out
  rw [← EE] at T
  refine T.mono ?_
  rintro e w6 hO
  obtain ⟨v, rfl⟩ := hO.ret
  have HO : Hid (OutIs (w.alloc (.cells #[.pointer (some ⟨rb, 0, none⟩), .int .i64 n] 100)) w6 (.returned v) rb g n cp pb z R) := hO
  clear hO T EE
  go_wp2
  go_ret
  exact OutIs.lower XW.out HO.out

set_option maxRecDepth 100000 in
set_option maxHeartbeats 2000000 in
theorem into_subscribe {w0 w : World} {rb g n cp pb : Nat} {z : Nat → Int} {r : Rs} {c : Cn} (fl : Int) (h : Cs w0 w rb g n cp pb z r (blank 8) c) :
    Calls Tryz.prog 48 #[.agg #[.pointer (some ⟨rb, 0, none⟩), .int .i64 n], .pointer (some ⟨pb, 0, none⟩), .int .i64 fl] w fun e w' => OutIs w0 w' e rb g n cp pb z (errOut (subP z n r (blank 8) c)) := by
  have XW : Hid (Cs w0 (w.alloc (.cells #[.pointer (some ⟨rb, 0, none⟩), .int .i64 n] 100)) rb g n cp pb z r (blank 8) c) := h.below ((Below.refl _ _).alloc (Nat.le_refl _) _)
  have XV : Hid (Cs (w.alloc (.cells #[.pointer (some ⟨rb, 0, none⟩), .int .i64 n] 100)) (w.alloc (.cells #[.pointer (some ⟨rb, 0, none⟩), .int .i64 n] 100)) rb g n cp pb z r (blank 8) c) := XW.out.self (nx_blank 8)
  have LL : Hid (rb < w.heap.size ∧ pb < w.heap.size) := ⟨lt_of_block h.rd.rd, lt_of_block h.pk⟩
  have BX0 : Hid ((w.alloc (.cells #[.pointer (some ⟨rb, 0, none⟩), .int .i64 n] 100)).cell? ⟨w.heap.size, 0, none⟩ = some (.pointer (some ⟨rb, 0, none⟩))) := by show _ = _; simp [go_sem]
  have c0 : (w.alloc (.cells #[.pointer (some ⟨rb, 0, none⟩), .int .i64 n] 100)).cell? ⟨pb, 0, none⟩ = some (.int .i64 8) := XW.out.cell 0 _ rfl
  obtain ⟨R, hR⟩ : ∃ R, R = errOut (subP z n r (blank 8) c) := ⟨_, rfl⟩
  rw [← hR]
  have HR : Hid (R = errOut (subP z n r (blank 8) c)) := hR
  clear h hR
  go_enter Tryz.func48, Tryz.ntmps48
  obtain ⟨Y, hY⟩ : ∃ Y, Y = subP z n r (blank 8) c := ⟨_, rfl⟩
  rw [← hY] at HR
  have DD : Hid (Calls Tryz.prog 61 #[.agg #[.pointer (some ⟨rb, 0, none⟩), .int .i64 n], .pointer (some ⟨pb, 0, none⟩)] (w.alloc (.cells #[.pointer (some ⟨rb, 0, none⟩), .int .i64 n] 100)) fun e w' => e = .returned (.tuple #[]) ∧ Done (w.alloc (.cells #[.pointer (some ⟨rb, 0, none⟩), .int .i64 n] 100)) w' rb g n cp pb z Y) := by rw [hY]; exact sub_any XV.out rfl
  clear hY
  go_wp2_with fail
  go_must (go_at_call 61)
  refine DD.out.mono ?_
  rintro e w1 ⟨rfl, q, hq, ha⟩
  have X1 : Hid (Cs (w.alloc (.cells #[.pointer (some ⟨rb, 0, none⟩), .int .i64 n] 100)) w1 rb g n cp pb z Y.1 q Y.2.2) := hq
  have AL : Hid (Alike q Y.2.1) := ha
  have BX1 : Hid (w1.cell? ⟨w.heap.size, 0, none⟩ = some (.pointer (some ⟨rb, 0, none⟩))) := by
    have q2 := hq.block w.heap.size (by simp) (by have := LL.out; omega) (by have := LL.out; omega)
    have q3 := BX0.out
    show _ = _
    unfold World.cell? at q3 ⊢
    rw [show ({ block := w.heap.size, off := 0 } : Addr).block = w.heap.size from rfl, q2]
    exact q3
  clear hq ha DD
  have bx := BX1.out
  go_wp2_with fail
  go_must (go_at_call 66)
  clear bx
  have T := err_out X1.out (Y.2.1) AL.out
  have EE : R = if (Y.1).q ≠ 0 then .error ((Y.1).p, (Y.1).q) else .ok (Y.1, Y.2.1, Y.2.2) := HR.out
  rw [← EE] at T
  refine T.mono ?_
  rintro e w6 hO
  obtain ⟨v, rfl⟩ := hO.ret
  have HO : Hid (OutIs (w.alloc (.cells #[.pointer (some ⟨rb, 0, none⟩), .int .i64 n] 100)) w6 (.returned v) rb g n cp pb z R) := hO
  clear hO T EE
  go_wp2
  go_ret
  exact OutIs.lower XW.out HO.out

set_option maxRecDepth 100000 in
set_option maxHeartbeats 2000000 in
theorem into_suback {w0 w : World} {rb g n cp pb : Nat} {z : Nat → Int} {r : Rs} {c : Cn} (fl : Int) (h : Cs w0 w rb g n cp pb z r (blank 9) c) :
    Calls Tryz.prog 48 #[.agg #[.pointer (some ⟨rb, 0, none⟩), .int .i64 n], .pointer (some ⟨pb, 0, none⟩), .int .i64 fl] w fun e w' => OutIs w0 w' e rb g n cp pb z (errOut (subackP z n r (blank 9) c)) := by
  have XW : Hid (Cs w0 (w.alloc (.cells #[.pointer (some ⟨rb, 0, none⟩), .int .i64 n] 100)) rb g n cp pb z r (blank 9) c) := h.below ((Below.refl _ _).alloc (Nat.le_refl _) _)
  have XV : Hid (Cs (w.alloc (.cells #[.pointer (some ⟨rb, 0, none⟩), .int .i64 n] 100)) (w.alloc (.cells #[.pointer (some ⟨rb, 0, none⟩), .int .i64 n] 100)) rb g n cp pb z r (blank 9) c) := XW.out.self (nx_blank 9)
  have LL : Hid (rb < w.heap.size ∧ pb < w.heap.size) := ⟨lt_of_block h.rd.rd, lt_of_block h.pk⟩
  have BX0 : Hid ((w.alloc (.cells #[.pointer (some ⟨rb, 0, none⟩), .int .i64 n] 100)).cell? ⟨w.heap.size, 0, none⟩ = some (.pointer (some ⟨rb, 0, none⟩))) := by show _ = _; simp [go_sem]
  have c0 : (w.alloc (.cells #[.pointer (some ⟨rb, 0, none⟩), .int .i64 n] 100)).cell? ⟨pb, 0, none⟩ = some (.int .i64 9) := XW.out.cell 0 _ rfl
  obtain ⟨R, hR⟩ : ∃ R, R = errOut (subackP z n r (blank 9) c) := ⟨_, rfl⟩
  rw [← hR]
  have HR : Hid (R = errOut (subackP z n r (blank 9) c)) := hR
  clear h hR
  go_enter Tryz.func48, Tryz.ntmps48
  obtain ⟨Y, hY⟩ : ∃ Y, Y = subackP z n r (blank 9) c := ⟨_, rfl⟩
  rw [← hY] at HR
  have DD : Hid (Calls Tryz.prog 62 #[.agg #[.pointer (some ⟨rb, 0, none⟩), .int .i64 n], .pointer (some ⟨pb, 0, none⟩)] (w.alloc (.cells #[.pointer (some ⟨rb, 0, none⟩), .int .i64 n] 100)) fun e w' => e = .returned (.tuple #[]) ∧ Done (w.alloc (.cells #[.pointer (some ⟨rb, 0, none⟩), .int .i64 n] 100)) w' rb g n cp pb z Y) := by rw [hY]; exact suback_any XV.out
  clear hY
  go_wp2_with fail
  go_must (go_at_call 62)
  refine DD.out.mono ?_
  rintro e w1 ⟨rfl, q, hq, ha⟩
  have X1 : Hid (Cs (w.alloc (.cells #[.pointer (some ⟨rb, 0, none⟩), .int .i64 n] 100)) w1 rb g n cp pb z Y.1 q Y.2.2) := hq
  have AL : Hid (Alike q Y.2.1) := ha
  have BX1 : Hid (w1.cell? ⟨w.heap.size, 0, none⟩ = some (.pointer (some ⟨rb, 0, none⟩))) := by
    have q2 := hq.block w.heap.size (by simp) (by have := LL.out; omega) (by have := LL.out; omega)
    have q3 := BX0.out
    show _ = _
    unfold World.cell? at q3 ⊢
    rw [show ({ block := w.heap.size, off := 0 } : Addr).block = w.heap.size from rfl, q2]
    exact q3
  clear hq ha DD
  have bx := BX1.out
  go_wp2_with fail
  go_must (go_at_call 66)
  clear bx
  have T := err_out X1.out (Y.2.1) AL.out
  have EE : R = if (Y.1).q ≠ 0 then .error ((Y.1).p, (Y.1).q) else .ok (Y.1, Y.2.1, Y.2.2) := HR.out
  rw [← EE] at T
  refine T.mono ?_
  rintro e w6 hO
  obtain ⟨v, rfl⟩ := hO.ret
  have HO : Hid (OutIs (w.alloc (.cells #[.pointer (some ⟨rb, 0, none⟩), .int .i64 n] 100)) w6 (.returned v) rb g n cp pb z R) := hO
  clear hO T EE
  go_wp2
  go_ret
  exact OutIs.lower XW.out HO.out

set_option maxRecDepth 100000 in
set_option maxHeartbeats 2000000 in
theorem into_unsubscribe {w0 w : World} {rb g n cp pb : Nat} {z : Nat → Int} {r : Rs} {c : Cn} (fl : Int) (h : Cs w0 w rb g n cp pb z r (blank 10) c) :
    Calls Tryz.prog 48 #[.agg #[.pointer (some ⟨rb, 0, none⟩), .int .i64 n], .pointer (some ⟨pb, 0, none⟩), .int .i64 fl] w fun e w' => OutIs w0 w' e rb g n cp pb z (errOut (unsP z n r (blank 10) c)) := by
  have XW : Hid (Cs w0 (w.alloc (.cells #[.pointer (some ⟨rb, 0, none⟩), .int .i64 n] 100)) rb g n cp pb z r (blank 10) c) := h.below ((Below.refl _ _).alloc (Nat.le_refl _) _)
  have XV : Hid (Cs (w.alloc (.cells #[.pointer (some ⟨rb, 0, none⟩), .int .i64 n] 100)) (w.alloc (.cells #[.pointer (some ⟨rb, 0, none⟩), .int .i64 n] 100)) rb g n cp pb z r (blank 10) c) := XW.out.self (nx_blank 10)
  have LL : Hid (rb < w.heap.size ∧ pb < w.heap.size) := ⟨lt_of_block h.rd.rd, lt_of_block h.pk⟩
  have BX0 : Hid ((w.alloc (.cells #[.pointer (some ⟨rb, 0, none⟩), .int .i64 n] 100)).cell? ⟨w.heap.size, 0, none⟩ = some (.pointer (some ⟨rb, 0, none⟩))) := by show _ = _; simp [go_sem]
  have c0 : (w.alloc (.cells #[.pointer (some ⟨rb, 0, none⟩), .int .i64 n] 100)).cell? ⟨pb, 0, none⟩ = some (.int .i64 10) := XW.out.cell 0 _ rfl
  obtain ⟨R, hR⟩ : ∃ R, R = errOut (unsP z n r (blank 10) c) := ⟨_, rfl⟩
  rw [← hR]
  have HR : Hid (R = errOut (unsP z n r (blank 10) c)) := hR
  clear h hR
  go_enter Tryz.func48, Tryz.ntmps48
  obtain ⟨Y, hY⟩ : ∃ Y, Y = unsP z n r (blank 10) c := ⟨_, rfl⟩
  rw [← hY] at HR
  have DD : Hid (Calls Tryz.prog 63 #[.agg #[.pointer (some ⟨rb, 0, none⟩), .int .i64 n], .pointer (some ⟨pb, 0, none⟩)] (w.alloc (.cells #[.pointer (some ⟨rb, 0, none⟩), .int .i64 n] 100)) fun e w' => e = .returned (.tuple #[]) ∧ Done (w.alloc (.cells #[.pointer (some ⟨rb, 0, none⟩), .int .i64 n] 100)) w' rb g n cp pb z Y) := by rw [hY]; exact uns_any XV.out rfl
  clear hY
  go_wp2_with fail
  go_must (go_at_call 63)
  refine DD.out.mono ?_
  rintro e w1 ⟨rfl, q, hq, ha⟩
  have X1 : Hid (Cs (w.alloc (.cells #[.pointer (some ⟨rb, 0, none⟩), .int .i64 n] 100)) w1 rb g n cp pb z Y.1 q Y.2.2) := hq
  have AL : Hid (Alike q Y.2.1) := ha
  have BX1 : Hid (w1.cell? ⟨w.heap.size, 0, none⟩ = some (.pointer (some ⟨rb, 0, none⟩))) := by
    have q2 := hq.block w.heap.size (by simp) (by have := LL.out; omega) (by have := LL.out; omega)
    have q3 := BX0.out
    show _ = _
    unfold World.cell? at q3 ⊢
    rw [show ({ block := w.heap.size, off := 0 } : Addr).block = w.heap.size from rfl, q2]
    exact q3
  clear hq ha DD
  have bx := BX1.out
  go_wp2_with fail
  go_must (go_at_call 66)
  clear bx
  have T := err_out X1.out (Y.2.1) AL.out
  have EE : R = if (Y.1).q ≠ 0 then .error ((Y.1).p, (Y.1).q) else .ok (Y.1, Y.2.1, Y.2.2) := HR.out
  rw [← EE] at T
  refine T.mono ?_
  rintro e w6 hO
  obtain ⟨v, rfl⟩ := hO.ret
  have HO : Hid (OutIs (w.alloc (.cells #[.pointer (some ⟨rb, 0, none⟩), .int .i64 n] 100)) w6 (.returned v) rb g n cp pb z R) := hO
  clear hO T EE
  go_wp2
  go_ret
  exact OutIs.lower XW.out HO.out

set_option maxRecDepth 100000 in
set_option maxHeartbeats 2000000 in
theorem into_4 {w0 w : World} {rb g n cp pb : Nat} {z : Nat → Int} {r : Rs} {c : Cn} (fl : Int) (h : Cs w0 w rb g n cp pb z r (blank 4) c) :
    Calls Tryz.prog 48 #[.agg #[.pointer (some ⟨rb, 0, none⟩), .int .i64 n], .pointer (some ⟨pb, 0, none⟩), .int .i64 fl] w fun e w' => OutIs w0 w' e rb g n cp pb z (errOut (idP z n r (blank 4) c)) := by
  have XW : Hid (Cs w0 (w.alloc (.cells #[.pointer (some ⟨rb, 0, none⟩), .int .i64 n] 100)) rb g n cp pb z r (blank 4) c) := h.below ((Below.refl _ _).alloc (Nat.le_refl _) _)
  have XV : Hid (Cs (w.alloc (.cells #[.pointer (some ⟨rb, 0, none⟩), .int .i64 n] 100)) (w.alloc (.cells #[.pointer (some ⟨rb, 0, none⟩), .int .i64 n] 100)) rb g n cp pb z r (blank 4) c) := XW.out.self (nx_blank 4)
  have LL : Hid (rb < w.heap.size ∧ pb < w.heap.size) := ⟨lt_of_block h.rd.rd, lt_of_block h.pk⟩
  have BX0 : Hid ((w.alloc (.cells #[.pointer (some ⟨rb, 0, none⟩), .int .i64 n] 100)).cell? ⟨w.heap.size, 0, none⟩ = some (.pointer (some ⟨rb, 0, none⟩))) := by show _ = _; simp [go_sem]
  have c0 : (w.alloc (.cells #[.pointer (some ⟨rb, 0, none⟩), .int .i64 n] 100)).cell? ⟨pb, 0, none⟩ = some (.int .i64 4) := XW.out.cell 0 _ rfl
  obtain ⟨R, hR⟩ : ∃ R, R = errOut (idP z n r (blank 4) c) := ⟨_, rfl⟩
  rw [← hR]
  have HR : Hid (R = errOut (idP z n r (blank 4) c)) := hR
  clear h hR
  go_enter Tryz.func48, Tryz.ntmps48
  obtain ⟨t, ht⟩ : ∃ y, y = rNum z n r := ⟨_, rfl⟩
  have H1 : Hid (t = rNum z n r) := ht
  obtain ⟨r2, hr2⟩ : ∃ y, y = rEnd n t.2 := ⟨_, rfl⟩
  have H2 : Hid (r2 = rEnd n t.2) := hr2
  rw [idP, ← ht, ← hr2] at HR
  clear ht hr2
  obtain ⟨t, r1⟩ := t
  simp only at H2 HR
  have bx := BX0.out
  go_wp2_with fail
  go_must (go_at_call 64)
  clear bx c0
  refine (number_any XV.out.rd).mono ?_
  rw [← H1.out]
  rintro e v1 ⟨rfl, hr, hg⟩
  have X1 : Hid (Cs (w.alloc (.cells #[.pointer (some ⟨rb, 0, none⟩), .int .i64 n] 100)) v1 rb g n cp pb z r1 (blank 4) c) := XV.out.read hr hg
  have BX1 : Hid (v1.cell? ⟨w.heap.size, 0, none⟩ = some (.pointer (some ⟨rb, 0, none⟩))) := hg.cell BX0.out (by have := LL.out; simp; omega)
  clear hr hg
  have e21 := X1.out.cell 21 (.int .i64 0) rfl
  have z21 := X1.out.frozen 21
  obtain ⟨v2, hW⟩ : ∃ W, W = v1.setCell ⟨pb, 21, none⟩ (.int .i64 t) := ⟨_, rfl⟩
  have X2 := (show Hid _ from X1.out.setS 21 (.int .i64 t) ({ blank 4 with id := t }) rfl rfl rfl rfl rfl rfl rfl)
  rw [← hW] at X2
  have BX2 : Hid (v2.cell? ⟨w.heap.size, 0, none⟩ = some (.pointer (some ⟨rb, 0, none⟩))) := by show _ = _; rw [hW]; exact bx_set BX1.out (by have := LL.out; omega)
  go_upto_region 23 with fail
  rw [← hW]
  clear hW e21 z21
  have bx := BX2.out
  go_wp2_with fail
  go_must (go_at_call 65)
  clear bx
  refine (end_any X2.out.rd).mono ?_
  rw [← H2.out]
  rintro e v3 ⟨rfl, hr, hg⟩
  have X3 : Hid (Cs (w.alloc (.cells #[.pointer (some ⟨rb, 0, none⟩), .int .i64 n] 100)) v3 rb g n cp pb z r2 ({ blank 4 with id := t }) c) := X2.out.read hr hg
  have BX3 : Hid (v3.cell? ⟨w.heap.size, 0, none⟩ = some (.pointer (some ⟨rb, 0, none⟩))) := hg.cell BX2.out (by have := LL.out; simp; omega)
  clear hr hg
  have bx := BX3.out
  go_wp2_with fail
  go_must (go_at_call 66)
  clear bx
  have T := err_out X3.out ({ blank 4 with id := t }) (Alike.refl _)
  have EE : R = if (r2).q ≠ 0 then .error ((r2).p, (r2).q) else .ok (r2, { blank 4 with id := t }, c) := HR.out
  rw [← EE] at T
  refine T.mono ?_
  rintro e w6 hO
  obtain ⟨v, rfl⟩ := hO.ret
  have HO : Hid (OutIs (w.alloc (.cells #[.pointer (some ⟨rb, 0, none⟩), .int .i64 n] 100)) w6 (.returned v) rb g n cp pb z R) := hO
  clear hO T EE
  go_wp2
  go_ret
  exact OutIs.lower XW.out HO.out

set_option maxRecDepth 100000 in
set_option maxHeartbeats 2000000 in
theorem into_5 {w0 w : World} {rb g n cp pb : Nat} {z : Nat → Int} {r : Rs} {c : Cn} (fl : Int) (h : Cs w0 w rb g n cp pb z r (blank 5) c) :
    Calls Tryz.prog 48 #[.agg #[.pointer (some ⟨rb, 0, none⟩), .int .i64 n], .pointer (some ⟨pb, 0, none⟩), .int .i64 fl] w fun e w' => OutIs w0 w' e rb g n cp pb z (errOut (idP z n r (blank 5) c)) := by
  have XW : Hid (Cs w0 (w.alloc (.cells #[.pointer (some ⟨rb, 0, none⟩), .int .i64 n] 100)) rb g n cp pb z r (blank 5) c) := h.below ((Below.refl _ _).alloc (Nat.le_refl _) _)
  have XV : Hid (Cs (w.alloc (.cells #[.pointer (some ⟨rb, 0, none⟩), .int .i64 n] 100)) (w.alloc (.cells #[.pointer (some ⟨rb, 0, none⟩), .int .i64 n] 100)) rb g n cp pb z r (blank 5) c) := XW.out.self (nx_blank 5)
  have LL : Hid (rb < w.heap.size ∧ pb < w.heap.size) := ⟨lt_of_block h.rd.rd, lt_of_block h.pk⟩
  have BX0 : Hid ((w.alloc (.cells #[.pointer (some ⟨rb, 0, none⟩), .int .i64 n] 100)).cell? ⟨w.heap.size, 0, none⟩ = some (.pointer (some ⟨rb, 0, none⟩))) := by show _ = _; simp [go_sem]
  have c0 : (w.alloc (.cells #[.pointer (some ⟨rb, 0, none⟩), .int .i64 n] 100)).cell? ⟨pb, 0, none⟩ = some (.int .i64 5) := XW.out.cell 0 _ rfl
  obtain ⟨R, hR⟩ : ∃ R, R = errOut (idP z n r (blank 5) c) := ⟨_, rfl⟩
  rw [← hR]
  have HR : Hid (R = errOut (idP z n r (blank 5) c)) := hR
  clear h hR
  go_enter Tryz.func48, Tryz.ntmps48
  obtain ⟨t, ht⟩ : ∃ y, y = rNum z n r := ⟨_, rfl⟩
  have H1 : Hid (t = rNum z n r) := ht
  obtain ⟨r2, hr2⟩ : ∃ y, y = rEnd n t.2 := ⟨_, rfl⟩
  have H2 : Hid (r2 = rEnd n t.2) := hr2
  rw [idP, ← ht, ← hr2] at HR
  clear ht hr2
  obtain ⟨t, r1⟩ := t
  simp only at H2 HR
  have bx := BX0.out
  go_wp2_with fail
  go_must (go_at_call 64)
  clear bx c0
  refine (number_any XV.out.rd).mono ?_
  rw [← H1.out]
  rintro e v1 ⟨rfl, hr, hg⟩
  have X1 : Hid (Cs (w.alloc (.cells #[.pointer (some ⟨rb, 0, none⟩), .int .i64 n] 100)) v1 rb g n cp pb z r1 (blank 5) c) := XV.out.read hr hg
  have BX1 : Hid (v1.cell? ⟨w.heap.size, 0, none⟩ = some (.pointer (some ⟨rb, 0, none⟩))) := hg.cell BX0.out (by have := LL.out; simp; omega)
  clear hr hg
  have e21 := X1.out.cell 21 (.int .i64 0) rfl
  have z21 := X1.out.frozen 21
  obtain ⟨v2, hW⟩ : ∃ W, W = v1.setCell ⟨pb, 21, none⟩ (.int .i64 t) := ⟨_, rfl⟩
  have X2 := (show Hid _ from X1.out.setS 21 (.int .i64 t) ({ blank 5 with id := t }) rfl rfl rfl rfl rfl rfl rfl)
  rw [← hW] at X2
  have BX2 : Hid (v2.cell? ⟨w.heap.size, 0, none⟩ = some (.pointer (some ⟨rb, 0, none⟩))) := by show _ = _; rw [hW]; exact bx_set BX1.out (by have := LL.out; omega)
  go_upto_region 23 with fail
  rw [← hW]
  clear hW e21 z21
  have bx := BX2.out
  go_wp2_with fail
  go_must (go_at_call 65)
  clear bx
  refine (end_any X2.out.rd).mono ?_
  rw [← H2.out]
  rintro e v3 ⟨rfl, hr, hg⟩
  have X3 : Hid (Cs (w.alloc (.cells #[.pointer (some ⟨rb, 0, none⟩), .int .i64 n] 100)) v3 rb g n cp pb z r2 ({ blank 5 with id := t }) c) := X2.out.read hr hg
  have BX3 : Hid (v3.cell? ⟨w.heap.size, 0, none⟩ = some (.pointer (some ⟨rb, 0, none⟩))) := hg.cell BX2.out (by have := LL.out; simp; omega)
  clear hr hg
  have bx := BX3.out
  go_wp2_with fail
  go_must (go_at_call 66)
  clear bx
  have T := err_out X3.out ({ blank 5 with id := t }) (Alike.refl _)
  have EE : R = if (r2).q ≠ 0 then .error ((r2).p, (r2).q) else .ok (r2, { blank 5 with id := t }, c) := HR.out
  rw [← EE] at T
  refine T.mono ?_
  rintro e w6 hO
  obtain ⟨v, rfl⟩ := hO.ret
  have HO : Hid (OutIs (w.alloc (.cells #[.pointer (some ⟨rb, 0, none⟩), .int .i64 n] 100)) w6 (.returned v) rb g n cp pb z R) := hO
  clear hO T EE
  go_wp2
  go_ret
  exact OutIs.lower XW.out HO.out

set_option maxRecDepth 100000 in
set_option maxHeartbeats 2000000 in
theorem into_6 {w0 w : World} {rb g n cp pb : Nat} {z : Nat → Int} {r : Rs} {c : Cn} (fl : Int) (h : Cs w0 w rb g n cp pb z r (blank 6) c) :
    Calls Tryz.prog 48 #[.agg #[.pointer (some ⟨rb, 0, none⟩), .int .i64 n], .pointer (some ⟨pb, 0, none⟩), .int .i64 fl] w fun e w' => OutIs w0 w' e rb g n cp pb z (errOut (idP z n r (blank 6) c)) := by
  have XW : Hid (Cs w0 (w.alloc (.cells #[.pointer (some ⟨rb, 0, none⟩), .int .i64 n] 100)) rb g n cp pb z r (blank 6) c) := h.below ((Below.refl _ _).alloc (Nat.le_refl _) _)
  have XV : Hid (Cs (w.alloc (.cells #[.pointer (some ⟨rb, 0, none⟩), .int .i64 n] 100)) (w.alloc (.cells #[.pointer (some ⟨rb, 0, none⟩), .int .i64 n] 100)) rb g n cp pb z r (blank 6) c) := XW.out.self (nx_blank 6)
  have LL : Hid (rb < w.heap.size ∧ pb < w.heap.size) := ⟨lt_of_block h.rd.rd, lt_of_block h.pk⟩
  have BX0 : Hid ((w.alloc (.cells #[.pointer (some ⟨rb, 0, none⟩), .int .i64 n] 100)).cell? ⟨w.heap.size, 0, none⟩ = some (.pointer (some ⟨rb, 0, none⟩))) := by show _ = _; simp [go_sem]
  have c0 : (w.alloc (.cells #[.pointer (some ⟨rb, 0, none⟩), .int .i64 n] 100)).cell? ⟨pb, 0, none⟩ = some (.int .i64 6) := XW.out.cell 0 _ rfl
  obtain ⟨R, hR⟩ : ∃ R, R = errOut (idP z n r (blank 6) c) := ⟨_, rfl⟩
  rw [← hR]
  have HR : Hid (R = errOut (idP z n r (blank 6) c)) := hR
  clear h hR
  go_enter Tryz.func48, Tryz.ntmps48
  obtain ⟨t, ht⟩ : ∃ y, y = rNum z n r := ⟨_, rfl⟩
  have H1 : Hid (t = rNum z n r) := ht
  obtain ⟨r2, hr2⟩ : ∃ y, y = rEnd n t.2 := ⟨_, rfl⟩
  have H2 : Hid (r2 = rEnd n t.2) := hr2
  rw [idP, ← ht, ← hr2] at HR
  clear ht hr2
  obtain ⟨t, r1⟩ := t
  simp only at H2 HR
  have bx := BX0.out
  go_wp2_with fail
  go_must (go_at_call 64)
  clear bx c0
  refine (number_any XV.out.rd).mono ?_
  rw [← H1.out]
  rintro e v1 ⟨rfl, hr, hg⟩
  have X1 : Hid (Cs (w.alloc (.cells #[.pointer (some ⟨rb, 0, none⟩), .int .i64 n] 100)) v1 rb g n cp pb z r1 (blank 6) c) := XV.out.read hr hg
  have BX1 : Hid (v1.cell? ⟨w.heap.size, 0, none⟩ = some (.pointer (some ⟨rb, 0, none⟩))) := hg.cell BX0.out (by have := LL.out; simp; omega)
  clear hr hg
  have e21 := X1.out.cell 21 (.int .i64 0) rfl
  have z21 := X1.out.frozen 21
  obtain ⟨v2, hW⟩ : ∃ W, W = v1.setCell ⟨pb, 21, none⟩ (.int .i64 t) := ⟨_, rfl⟩
  have X2 := (show Hid _ from X1.out.setS 21 (.int .i64 t) ({ blank 6 with id := t }) rfl rfl rfl rfl rfl rfl rfl)
  rw [← hW] at X2
  have BX2 : Hid (v2.cell? ⟨w.heap.size, 0, none⟩ = some (.pointer (some ⟨rb, 0, none⟩))) := by show _ = _; rw [hW]; exact bx_set BX1.out (by have := LL.out; omega)
  go_upto_region 23 with fail
  rw [← hW]
  clear hW e21 z21
  have bx := BX2.out
  go_wp2_with fail
  go_must (go_at_call 65)
  clear bx
  refine (end_any X2.out.rd).mono ?_
  rw [← H2.out]
  rintro e v3 ⟨rfl, hr, hg⟩
  have X3 : Hid (Cs (w.alloc (.cells #[.pointer (some ⟨rb, 0, none⟩), .int .i64 n] 100)) v3 rb g n cp pb z r2 ({ blank 6 with id := t }) c) := X2.out.read hr hg
  have BX3 : Hid (v3.cell? ⟨w.heap.size, 0, none⟩ = some (.pointer (some ⟨rb, 0, none⟩))) := hg.cell BX2.out (by have := LL.out; simp; omega)
  clear hr hg
  have bx := BX3.out
  go_wp2_with fail
  go_must (go_at_call 66)
  clear bx
  have T := err_out X3.out ({ blank 6 with id := t }) (Alike.refl _)
  have EE : R = if (r2).q ≠ 0 then .error ((r2).p, (r2).q) else .ok (r2, { blank 6 with id := t }, c) := HR.out
  rw [← EE] at T
  refine T.mono ?_
  rintro e w6 hO
  obtain ⟨v, rfl⟩ := hO.ret
  have HO : Hid (OutIs (w.alloc (.cells #[.pointer (some ⟨rb, 0, none⟩), .int .i64 n] 100)) w6 (.returned v) rb g n cp pb z R) := hO
  clear hO T EE
  go_wp2
  go_ret
  exact OutIs.lower XW.out HO.out

set_option maxRecDepth 100000 in
set_option maxHeartbeats 2000000 in
theorem into_7 {w0 w : World} {rb g n cp pb : Nat} {z : Nat → Int} {r : Rs} {c : Cn} (fl : Int) (h : Cs w0 w rb g n cp pb z r (blank 7) c) :
    Calls Tryz.prog 48 #[.agg #[.pointer (some ⟨rb, 0, none⟩), .int .i64 n], .pointer (some ⟨pb, 0, none⟩), .int .i64 fl] w fun e w' => OutIs w0 w' e rb g n cp pb z (errOut (idP z n r (blank 7) c)) := by
  have XW : Hid (Cs w0 (w.alloc (.cells #[.pointer (some ⟨rb, 0, none⟩), .int .i64 n] 100)) rb g n cp pb z r (blank 7) c) := h.below ((Below.refl _ _).alloc (Nat.le_refl _) _)
  have XV : Hid (Cs (w.alloc (.cells #[.pointer (some ⟨rb, 0, none⟩), .int .i64 n] 100)) (w.alloc (.cells #[.pointer (some ⟨rb, 0, none⟩), .int .i64 n] 100)) rb g n cp pb z r (blank 7) c) := XW.out.self (nx_blank 7)
  have LL : Hid (rb < w.heap.size ∧ pb < w.heap.size) := ⟨lt_of_block h.rd.rd, lt_of_block h.pk⟩
  have BX0 : Hid ((w.alloc (.cells #[.pointer (some ⟨rb, 0, none⟩), .int .i64 n] 100)).cell? ⟨w.heap.size, 0, none⟩ = some (.pointer (some ⟨rb, 0, none⟩))) := by show _ = _; simp [go_sem]
  have c0 : (w.alloc (.cells #[.pointer (some ⟨rb, 0, none⟩), .int .i64 n] 100)).cell? ⟨pb, 0, none⟩ = some (.int .i64 7) := XW.out.cell 0 _ rfl
  obtain ⟨R, hR⟩ : ∃ R, R = errOut (idP z n r (blank 7) c) := ⟨_, rfl⟩
  rw [← hR]
  have HR : Hid (R = errOut (idP z n r (blank 7) c)) := hR
  clear h hR
  go_enter Tryz.func48, Tryz.ntmps48
  obtain ⟨t, ht⟩ : ∃ y, y = rNum z n r := ⟨_, rfl⟩
  have H1 : Hid (t = rNum z n r) := ht
  obtain ⟨r2, hr2⟩ : ∃ y, y = rEnd n t.2 := ⟨_, rfl⟩
  have H2 : Hid (r2 = rEnd n t.2) := hr2
  rw [idP, ← ht, ← hr2] at HR
  clear ht hr2
  obtain ⟨t, r1⟩ := t
  simp only at H2 HR
  have bx := BX0.out
  go_wp2_with fail
  go_must (go_at_call 64)
  clear bx c0
  refine (number_any XV.out.rd).mono ?_
  rw [← H1.out]
  rintro e v1 ⟨rfl, hr, hg⟩
  have X1 : Hid (Cs (w.alloc (.cells #[.pointer (some ⟨rb, 0, none⟩), .int .i64 n] 100)) v1 rb g n cp pb z r1 (blank 7) c) := XV.out.read hr hg
  have BX1 : Hid (v1.cell? ⟨w.heap.size, 0, none⟩ = some (.pointer (some ⟨rb, 0, none⟩))) := hg.cell BX0.out (by have := LL.out; simp; omega)
  clear hr hg
  have e21 := X1.out.cell 21 (.int .i64 0) rfl
  have z21 := X1.out.frozen 21
  obtain ⟨v2, hW⟩ : ∃ W, W = v1.setCell ⟨pb, 21, none⟩ (.int .i64 t) := ⟨_, rfl⟩
  have X2 := (show Hid _ from X1.out.setS 21 (.int .i64 t) ({ blank 7 with id := t }) rfl rfl rfl rfl rfl rfl rfl)
  rw [← hW] at X2
  have BX2 : Hid (v2.cell? ⟨w.heap.size, 0, none⟩ = some (.pointer (some ⟨rb, 0, none⟩))) := by show _ = _; rw [hW]; exact bx_set BX1.out (by have := LL.out; omega)
  go_upto_region 23 with fail
  rw [← hW]
  clear hW e21 z21
  have bx := BX2.out
  go_wp2_with fail
  go_must (go_at_call 65)
  clear bx
  refine (end_any X2.out.rd).mono ?_
  rw [← H2.out]
  rintro e v3 ⟨rfl, hr, hg⟩
  have X3 : Hid (Cs (w.alloc (.cells #[.pointer (some ⟨rb, 0, none⟩), .int .i64 n] 100)) v3 rb g n cp pb z r2 ({ blank 7 with id := t }) c) := X2.out.read hr hg
  have BX3 : Hid (v3.cell? ⟨w.heap.size, 0, none⟩ = some (.pointer (some ⟨rb, 0, none⟩))) := hg.cell BX2.out (by have := LL.out; simp; omega)
  clear hr hg
  have bx := BX3.out
  go_wp2_with fail
  go_must (go_at_call 66)
  clear bx
  have T := err_out X3.out ({ blank 7 with id := t }) (Alike.refl _)
  have EE : R = if (r2).q ≠ 0 then .error ((r2).p, (r2).q) else .ok (r2, { blank 7 with id := t }, c) := HR.out
  rw [← EE] at T
  refine T.mono ?_
  rintro e w6 hO
  obtain ⟨v, rfl⟩ := hO.ret
  have HO : Hid (OutIs (w.alloc (.cells #[.pointer (some ⟨rb, 0, none⟩), .int .i64 n] 100)) w6 (.returned v) rb g n cp pb z R) := hO
  clear hO T EE
  go_wp2
  go_ret
  exact OutIs.lower XW.out HO.out

set_option maxRecDepth 100000 in
set_option maxHeartbeats 2000000 in
theorem into_11 {w0 w : World} {rb g n cp pb : Nat} {z : Nat → Int} {r : Rs} {c : Cn} (fl : Int) (h : Cs w0 w rb g n cp pb z r (blank 11) c) :
    Calls Tryz.prog 48 #[.agg #[.pointer (some ⟨rb, 0, none⟩), .int .i64 n], .pointer (some ⟨pb, 0, none⟩), .int .i64 fl] w fun e w' => OutIs w0 w' e rb g n cp pb z (errOut (idP z n r (blank 11) c)) := by
  have XW : Hid (Cs w0 (w.alloc (.cells #[.pointer (some ⟨rb, 0, none⟩), .int .i64 n] 100)) rb g n cp pb z r (blank 11) c) := h.below ((Below.refl _ _).alloc (Nat.le_refl _) _)
  have XV : Hid (Cs (w.alloc (.cells #[.pointer (some ⟨rb, 0, none⟩), .int .i64 n] 100)) (w.alloc (.cells #[.pointer (some ⟨rb, 0, none⟩), .int .i64 n] 100)) rb g n cp pb z r (blank 11) c) := XW.out.self (nx_blank 11)
  have LL : Hid (rb < w.heap.size ∧ pb < w.heap.size) := ⟨lt_of_block h.rd.rd, lt_of_block h.pk⟩
  have BX0 : Hid ((w.alloc (.cells #[.pointer (some ⟨rb, 0, none⟩), .int .i64 n] 100)).cell? ⟨w.heap.size, 0, none⟩ = some (.pointer (some ⟨rb, 0, none⟩))) := by show _ = _; simp [go_sem]
  have c0 : (w.alloc (.cells #[.pointer (some ⟨rb, 0, none⟩), .int .i64 n] 100)).cell? ⟨pb, 0, none⟩ = some (.int .i64 11) := XW.out.cell 0 _ rfl
  obtain ⟨R, hR⟩ : ∃ R, R = errOut (idP z n r (blank 11) c) := ⟨_, rfl⟩
  rw [← hR]
  have HR : Hid (R = errOut (idP z n r (blank 11) c)) := hR
  clear h hR
  go_enter Tryz.func48, Tryz.ntmps48
  obtain ⟨t, ht⟩ : ∃ y, y = rNum z n r := ⟨_, rfl⟩
  have H1 : Hid (t = rNum z n r) := ht
  obtain ⟨r2, hr2⟩ : ∃ y, y = rEnd n t.2 := ⟨_, rfl⟩
  have H2 : Hid (r2 = rEnd n t.2) := hr2
  rw [idP, ← ht, ← hr2] at HR
  clear ht hr2
  obtain ⟨t, r1⟩ := t
  simp only at H2 HR
  have bx := BX0.out
  go_wp2_with fail
  go_must (go_at_call 64)
  clear bx c0
  refine (number_any XV.out.rd).mono ?_
  rw [← H1.out]
  rintro e v1 ⟨rfl, hr, hg⟩
  have X1 : Hid (Cs (w.alloc (.cells #[.pointer (some ⟨rb, 0, none⟩), .int .i64 n] 100)) v1 rb g n cp pb z r1 (blank 11) c) := XV.out.read hr hg
  have BX1 : Hid (v1.cell? ⟨w.heap.size, 0, none⟩ = some (.pointer (some ⟨rb, 0, none⟩))) := hg.cell BX0.out (by have := LL.out; simp; omega)
  clear hr hg
  have e21 := X1.out.cell 21 (.int .i64 0) rfl
  have z21 := X1.out.frozen 21
  obtain ⟨v2, hW⟩ : ∃ W, W = v1.setCell ⟨pb, 21, none⟩ (.int .i64 t) := ⟨_, rfl⟩
  have X2 := (show Hid _ from X1.out.setS 21 (.int .i64 t) ({ blank 11 with id := t }) rfl rfl rfl rfl rfl rfl rfl)
  rw [← hW] at X2
  have BX2 : Hid (v2.cell? ⟨w.heap.size, 0, none⟩ = some (.pointer (some ⟨rb, 0, none⟩))) := by show _ = _; rw [hW]; exact bx_set BX1.out (by have := LL.out; omega)
  go_upto_region 23 with fail
  rw [← hW]
  clear hW e21 z21
  have bx := BX2.out
  go_wp2_with fail
  go_must (go_at_call 65)
  clear bx
  refine (end_any X2.out.rd).mono ?_
  rw [← H2.out]
  rintro e v3 ⟨rfl, hr, hg⟩
  have X3 : Hid (Cs (w.alloc (.cells #[.pointer (some ⟨rb, 0, none⟩), .int .i64 n] 100)) v3 rb g n cp pb z r2 ({ blank 11 with id := t }) c) := X2.out.read hr hg
  have BX3 : Hid (v3.cell? ⟨w.heap.size, 0, none⟩ = some (.pointer (some ⟨rb, 0, none⟩))) := hg.cell BX2.out (by have := LL.out; simp; omega)
  clear hr hg
  have bx := BX3.out
  go_wp2_with fail
  go_must (go_at_call 66)
  clear bx
  have T := err_out X3.out ({ blank 11 with id := t }) (Alike.refl _)
  have EE : R = if (r2).q ≠ 0 then .error ((r2).p, (r2).q) else .ok (r2, { blank 11 with id := t }, c) := HR.out
  rw [← EE] at T
  refine T.mono ?_
  rintro e w6 hO
  obtain ⟨v, rfl⟩ := hO.ret
  have HO : Hid (OutIs (w.alloc (.cells #[.pointer (some ⟨rb, 0, none⟩), .int .i64 n] 100)) w6 (.returned v) rb g n cp pb z R) := hO
  clear hO T EE
  go_wp2
  go_ret
  exact OutIs.lower XW.out HO.out

set_option maxRecDepth 100000 in
set_option maxHeartbeats 2000000 in
theorem into_12 {w0 w : World} {rb g n cp pb : Nat} {z : Nat → Int} {r : Rs} {c : Cn} (fl : Int) (h : Cs w0 w rb g n cp pb z r (blank 12) c) :
    Calls Tryz.prog 48 #[.agg #[.pointer (some ⟨rb, 0, none⟩), .int .i64 n], .pointer (some ⟨pb, 0, none⟩), .int .i64 fl] w fun e w' => OutIs w0 w' e rb g n cp pb z (errOut (rEnd n r, blank 12, c)) := by
  have XW : Hid (Cs w0 (w.alloc (.cells #[.pointer (some ⟨rb, 0, none⟩), .int .i64 n] 100)) rb g n cp pb z r (blank 12) c) := h.below ((Below.refl _ _).alloc (Nat.le_refl _) _)
  have XV : Hid (Cs (w.alloc (.cells #[.pointer (some ⟨rb, 0, none⟩), .int .i64 n] 100)) (w.alloc (.cells #[.pointer (some ⟨rb, 0, none⟩), .int .i64 n] 100)) rb g n cp pb z r (blank 12) c) := XW.out.self (nx_blank 12)
  have LL : Hid (rb < w.heap.size ∧ pb < w.heap.size) := ⟨lt_of_block h.rd.rd, lt_of_block h.pk⟩
  have BX0 : Hid ((w.alloc (.cells #[.pointer (some ⟨rb, 0, none⟩), .int .i64 n] 100)).cell? ⟨w.heap.size, 0, none⟩ = some (.pointer (some ⟨rb, 0, none⟩))) := by show _ = _; simp [go_sem]
  have c0 : (w.alloc (.cells #[.pointer (some ⟨rb, 0, none⟩), .int .i64 n] 100)).cell? ⟨pb, 0, none⟩ = some (.int .i64 12) := XW.out.cell 0 _ rfl
  obtain ⟨R, hR⟩ : ∃ R, R = errOut (rEnd n r, blank 12, c) := ⟨_, rfl⟩
  rw [← hR]
  have HR : Hid (R = errOut (rEnd n r, blank 12, c)) := hR
  clear h hR
  go_enter Tryz.func48, Tryz.ntmps48
  obtain ⟨r1, hr1⟩ : ∃ y, y = rEnd n r := ⟨_, rfl⟩
  have H1 : Hid (r1 = rEnd n r) := hr1
  rw [← hr1] at HR
  clear hr1
  have bx := BX0.out
  go_wp2_with fail
  go_must (go_at_call 65)
  clear bx
  refine (end_any XV.out.rd).mono ?_
  rw [← H1.out]
  rintro e v1 ⟨rfl, hr, hg⟩
  have X1 : Hid (Cs (w.alloc (.cells #[.pointer (some ⟨rb, 0, none⟩), .int .i64 n] 100)) v1 rb g n cp pb z r1 (blank 12) c) := XV.out.read hr hg
  have BX1 : Hid (v1.cell? ⟨w.heap.size, 0, none⟩ = some (.pointer (some ⟨rb, 0, none⟩))) := hg.cell BX0.out (by have := LL.out; simp; omega)
  clear hr hg
  have bx := BX1.out
  go_wp2_with fail
  go_must (go_at_call 66)
  clear bx
  have T := err_out X1.out (blank 12) (Alike.refl _)
  have EE : R = if (r1).q ≠ 0 then .error ((r1).p, (r1).q) else .ok (r1, blank 12, c) := HR.out
  rw [← EE] at T
  refine T.mono ?_
  rintro e w6 hO
  obtain ⟨v, rfl⟩ := hO.ret
  have HO : Hid (OutIs (w.alloc (.cells #[.pointer (some ⟨rb, 0, none⟩), .int .i64 n] 100)) w6 (.returned v) rb g n cp pb z R) := hO
  clear hO T EE
  go_wp2
  go_ret
  exact OutIs.lower XW.out HO.out

set_option maxRecDepth 100000 in
set_option maxHeartbeats 2000000 in
theorem into_13 {w0 w : World} {rb g n cp pb : Nat} {z : Nat → Int} {r : Rs} {c : Cn} (fl : Int) (h : Cs w0 w rb g n cp pb z r (blank 13) c) :
    Calls Tryz.prog 48 #[.agg #[.pointer (some ⟨rb, 0, none⟩), .int .i64 n], .pointer (some ⟨pb, 0, none⟩), .int .i64 fl] w fun e w' => OutIs w0 w' e rb g n cp pb z (errOut (rEnd n r, blank 13, c)) := by
  have XW : Hid (Cs w0 (w.alloc (.cells #[.pointer (some ⟨rb, 0, none⟩), .int .i64 n] 100)) rb g n cp pb z r (blank 13) c) := h.below ((Below.refl _ _).alloc (Nat.le_refl _) _)
  have XV : Hid (Cs (w.alloc (.cells #[.pointer (some ⟨rb, 0, none⟩), .int .i64 n] 100)) (w.alloc (.cells #[.pointer (some ⟨rb, 0, none⟩), .int .i64 n] 100)) rb g n cp pb z r (blank 13) c) := XW.out.self (nx_blank 13)
  have LL : Hid (rb < w.heap.size ∧ pb < w.heap.size) := ⟨lt_of_block h.rd.rd, lt_of_block h.pk⟩
  have BX0 : Hid ((w.alloc (.cells #[.pointer (some ⟨rb, 0, none⟩), .int .i64 n] 100)).cell? ⟨w.heap.size, 0, none⟩ = some (.pointer (some ⟨rb, 0, none⟩))) := by show _ = _; simp [go_sem]
  have c0 : (w.alloc (.cells #[.pointer (some ⟨rb, 0, none⟩), .int .i64 n] 100)).cell? ⟨pb, 0, none⟩ = some (.int .i64 13) := XW.out.cell 0 _ rfl
  obtain ⟨R, hR⟩ : ∃ R, R = errOut (rEnd n r, blank 13, c) := ⟨_, rfl⟩
  rw [← hR]
  have HR : Hid (R = errOut (rEnd n r, blank 13, c)) := hR
  clear h hR
  go_enter Tryz.func48, Tryz.ntmps48
  obtain ⟨r1, hr1⟩ : ∃ y, y = rEnd n r := ⟨_, rfl⟩
  have H1 : Hid (r1 = rEnd n r) := hr1
  rw [← hr1] at HR
  clear hr1
  have bx := BX0.out
  go_wp2_with fail
  go_must (go_at_call 65)
  clear bx
  refine (end_any XV.out.rd).mono ?_
  rw [← H1.out]
  rintro e v1 ⟨rfl, hr, hg⟩
  have X1 : Hid (Cs (w.alloc (.cells #[.pointer (some ⟨rb, 0, none⟩), .int .i64 n] 100)) v1 rb g n cp pb z r1 (blank 13) c) := XV.out.read hr hg
  have BX1 : Hid (v1.cell? ⟨w.heap.size, 0, none⟩ = some (.pointer (some ⟨rb, 0, none⟩))) := hg.cell BX0.out (by have := LL.out; simp; omega)
  clear hr hg
  have bx := BX1.out
  go_wp2_with fail
  go_must (go_at_call 66)
  clear bx
  have T := err_out X1.out (blank 13) (Alike.refl _)
  have EE : R = if (r1).q ≠ 0 then .error ((r1).p, (r1).q) else .ok (r1, blank 13, c) := HR.out
  rw [← EE] at T
  refine T.mono ?_
  rintro e w6 hO
  obtain ⟨v, rfl⟩ := hO.ret
  have HO : Hid (OutIs (w.alloc (.cells #[.pointer (some ⟨rb, 0, none⟩), .int .i64 n] 100)) w6 (.returned v) rb g n cp pb z R) := hO
  clear hO T EE
  go_wp2
  go_ret
  exact OutIs.lower XW.out HO.out

set_option maxRecDepth 100000 in
set_option maxHeartbeats 2000000 in
theorem into_14 {w0 w : World} {rb g n cp pb : Nat} {z : Nat → Int} {r : Rs} {c : Cn} (fl : Int) (h : Cs w0 w rb g n cp pb z r (blank 14) c) :
    Calls Tryz.prog 48 #[.agg #[.pointer (some ⟨rb, 0, none⟩), .int .i64 n], .pointer (some ⟨pb, 0, none⟩), .int .i64 fl] w fun e w' => OutIs w0 w' e rb g n cp pb z (errOut (rEnd n r, blank 14, c)) := by
  have XW : Hid (Cs w0 (w.alloc (.cells #[.pointer (some ⟨rb, 0, none⟩), .int .i64 n] 100)) rb g n cp pb z r (blank 14) c) := h.below ((Below.refl _ _).alloc (Nat.le_refl _) _)
  have XV : Hid (Cs (w.alloc (.cells #[.pointer (some ⟨rb, 0, none⟩), .int .i64 n] 100)) (w.alloc (.cells #[.pointer (some ⟨rb, 0, none⟩), .int .i64 n] 100)) rb g n cp pb z r (blank 14) c) := XW.out.self (nx_blank 14)
  have LL : Hid (rb < w.heap.size ∧ pb < w.heap.size) := ⟨lt_of_block h.rd.rd, lt_of_block h.pk⟩
  have BX0 : Hid ((w.alloc (.cells #[.pointer (some ⟨rb, 0, none⟩), .int .i64 n] 100)).cell? ⟨w.heap.size, 0, none⟩ = some (.pointer (some ⟨rb, 0, none⟩))) := by show _ = _; simp [go_sem]
  have c0 : (w.alloc (.cells #[.pointer (some ⟨rb, 0, none⟩), .int .i64 n] 100)).cell? ⟨pb, 0, none⟩ = some (.int .i64 14) := XW.out.cell 0 _ rfl
  obtain ⟨R, hR⟩ : ∃ R, R = errOut (rEnd n r, blank 14, c) := ⟨_, rfl⟩
  rw [← hR]
  have HR : Hid (R = errOut (rEnd n r, blank 14, c)) := hR
  clear h hR
  go_enter Tryz.func48, Tryz.ntmps48
  obtain ⟨r1, hr1⟩ : ∃ y, y = rEnd n r := ⟨_, rfl⟩
  have H1 : Hid (r1 = rEnd n r) := hr1
  rw [← hr1] at HR
  clear hr1
  have bx := BX0.out
  go_wp2_with fail
  go_must (go_at_call 65)
  clear bx
  refine (end_any XV.out.rd).mono ?_
  rw [← H1.out]
  rintro e v1 ⟨rfl, hr, hg⟩
  have X1 : Hid (Cs (w.alloc (.cells #[.pointer (some ⟨rb, 0, none⟩), .int .i64 n] 100)) v1 rb g n cp pb z r1 (blank 14) c) := XV.out.read hr hg
  have BX1 : Hid (v1.cell? ⟨w.heap.size, 0, none⟩ = some (.pointer (some ⟨rb, 0, none⟩))) := hg.cell BX0.out (by have := LL.out; simp; omega)
  clear hr hg
  have bx := BX1.out
  go_wp2_with fail
  go_must (go_at_call 66)
  clear bx
  have T := err_out X1.out (blank 14) (Alike.refl _)
  have EE : R = if (r1).q ≠ 0 then .error ((r1).p, (r1).q) else .ok (r1, blank 14, c) := HR.out
  rw [← EE] at T
  refine T.mono ?_
  rintro e w6 hO
  obtain ⟨v, rfl⟩ := hO.ret
  have HO : Hid (OutIs (w.alloc (.cells #[.pointer (some ⟨rb, 0, none⟩), .int .i64 n] 100)) w6 (.returned v) rb g n cp pb z R) := hO
  clear hO T EE
  go_wp2
  go_ret
  exact OutIs.lower XW.out HO.out

/-- What comes of reading all fields of a packet of a kind. -/
def intoP (z : Nat → Int) (n : Nat) (r : Rs) (k : Int) (c : Cn) (fl : Int) : Except (Int × Int) (Rs × Pk × Cn) :=
  if k = 1 then connectP z n r (blank k) c else if k = 2 then connackP z n r (blank k) c else if k = 3 then errOut (publishP z n r (blank k) c fl)
  else if k = 8 then errOut (subP z n r (blank k) c) else if k = 9 then errOut (subackP z n r (blank k) c) else if k = 10 then errOut (unsP z n r (blank k) c)
  else if k = 12 ∨ k = 13 ∨ k = 14 then errOut (rEnd n r, blank k, c) else errOut (idP z n r (blank k) c)
theorem into_any {w0 w : World} {rb g n cp pb : Nat} {z : Nat → Int} {r : Rs} {c : Cn} (fl k : Int) (hk : 1 ≤ k ∧ k ≤ 14) (h : Cs w0 w rb g n cp pb z r (blank k) c) :
    Calls Tryz.prog 48 #[.agg #[.pointer (some ⟨rb, 0, none⟩), .int .i64 n], .pointer (some ⟨pb, 0, none⟩), .int .i64 fl] w fun e w' => OutIs w0 w' e rb g n cp pb z (intoP z n r k c fl) := by
  have hs : k = 1 ∨ k = 2 ∨ k = 3 ∨ k = 4 ∨ k = 5 ∨ k = 6 ∨ k = 7 ∨ k = 8 ∨ k = 9 ∨ k = 10 ∨ k = 11 ∨ k = 12 ∨ k = 13 ∨ k = 14 := by omega
  rcases hs with rfl | rfl | rfl | rfl | rfl | rfl | rfl | rfl | rfl | rfl | rfl | rfl | rfl | rfl
  · exact into_connect fl h
  · exact into_connack fl h
  · exact into_publish fl h
  · exact into_4 fl h
  · exact into_5 fl h
  · exact into_6 fl h
  · exact into_7 fl h
  · exact into_subscribe fl h
  · exact into_suback fl h
  · exact into_unsubscribe fl h
  · exact into_11 fl h
  · exact into_12 fl h
  · exact into_13 fl h
  · exact into_14 fl h
end Go.Proofs.YtmfbkfgggdkfmaaGreatDoor
