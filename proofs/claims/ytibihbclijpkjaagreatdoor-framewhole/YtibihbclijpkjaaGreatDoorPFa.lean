import Derived.Test.YtibihbclijpkjaaGreatDoorFdk
import Derived.Test.YtibihbclijpkjaaGreatDoorPWb
import Derived.Test.YtibihbclijpkjaaGreatDoorPWf
import Derived.Laws.Rows
import Derived.Deep.LoopGhost
namespace Go.Proofs.YtibihbclijpkjaaGreatDoor
open Go Go.RowKit
open Pkt (Pk Cn Sl In By Is Ss As pkCells)
set_option linter.unusedSimpArgs false
set_option linter.unusedVariables false

section
variable {w0 v w' : World} {rb g n cp pb : Nat} {z : Nat → Int} {r r' : Rs} {p p' : Pk} {c c' : Cn}
theorem Cs.self (h : Cs w0 v rb g n cp pb z r p c) (hn : ∀ B, NxAll B p) : Cs v v rb g n cp pb z r p c :=
  ⟨h.rd, h.pk, lt_of_block h.rd.rd, lt_of_block h.pk, h.n1, h.n2, h.inn, hn _, rfl, rfl, rfl, Nat.le_refl _, fun _ _ _ _ => rfl⟩
theorem Nx.lower {B D : Nat} {s : Sl} (h : Nx D s) (hB : B ≤ D) : Nx B s := fun b off e => Nat.le_trans hB (h b off e)
theorem Fr2.trans (h1 : Fr2 w0 v rb pb) (h2 : Fr2 v w' rb pb) : Fr2 w0 w' rb pb :=
  ⟨h2.os.trans h1.os, h2.tape.trans h1.tape, h2.output.trans h1.output, Nat.le_trans h1.size h2.size, fun k hk a b => (h2.block k (Nat.lt_of_lt_of_le hk h1.size) a b).trans (h1.block k hk a b)⟩
theorem Cs.trans (h1 : Cs w0 v rb g n cp pb z r p c) (h2 : Cs v w' rb g n cp pb z r' p' c') : Cs w0 w' rb g n cp pb z r' p' c' :=
  ⟨h2.rd, h2.pk, h1.lr, h1.lp, h1.n1, h1.n2, h2.inn, ⟨h2.nx.wP.lower h1.size, h2.nx.pass.lower h1.size, h2.nx.mP.lower h1.size, h2.nx.asks.lower h1.size, h2.nx.codes.lower h1.size, h2.nx.filters.lower h1.size⟩,
    h2.os.trans h1.os, h2.tape.trans h1.tape, h2.output.trans h1.output, Nat.le_trans h1.size h2.size, fun k hk a b => (h2.block k (Nat.lt_of_lt_of_le hk h1.size) a b).trans (h1.block k hk a b)⟩
theorem OutIs.lower {e : Ending} {R : Except (Int × Int) (Rs × Pk × Cn)} (h1 : Cs w0 v rb g n cp pb z r p c) (h2 : OutIs v w' e rb g n cp pb z R) : OutIs w0 w' e rb g n cp pb z R := by
  cases R with
  | error x => exact ⟨h2.1, h1.fr.trans h2.2⟩
  | ok y => obtain ⟨e, q, hq, ha⟩ := h2; exact ⟨e, q, h1.trans hq, ha⟩
end
def errOut (y : Rs × Pk × Cn) : Except (Int × Int) (Rs × Pk × Cn) := if y.1.q ≠ 0 then .error (y.1.p, y.1.q) else .ok y
/-- A packet of a kind, nothing read of it yet. -/
def blank (k : Int) : Pk := ⟨k, 0, false, 0, ⟨#[]⟩, false, ⟨#[]⟩, ⟨none, 0, 0⟩, 0, false, false, ⟨#[]⟩, false, ⟨none, 0, 0⟩, false, 0, false, ⟨#[]⟩, ⟨none, 0, 0⟩, 0, false, 0, ⟨none, 0, 0⟩, ⟨none, 0, 0⟩, ⟨none, 0, 0⟩⟩
theorem nx_nil (B : Nat) : Nx B ⟨none, 0, 0⟩ := fun b off e => by cases e
theorem nx_blank (k : Int) (B : Nat) : NxAll B (blank k) := ⟨nx_nil B, nx_nil B, nx_nil B, nx_nil B, nx_nil B, nx_nil B⟩
def idP (z : Nat → Int) (n : Nat) (r : Rs) (p : Pk) (c : Cn) : Rs × Pk × Cn := (rEnd n (rNum z n r).2, { p with id := (rNum z n r).1 }, c)

set_option maxRecDepth 100000 in
set_option maxHeartbeats 2000000 in
theorem into_connect {w0 w : World} {rb g n cp pb : Nat} {z : Nat → Int} {r : Rs} {c : Cn} (fl : Int) (h : Cs w0 w rb g n cp pb z r (blank 1) c) :
    Calls Tryz.prog 76 #[.agg #[.pointer (some ⟨rb, 0, none⟩), .int .i64 n], .pointer (some ⟨pb, 0, none⟩), .int .i64 fl] w fun e w' => OutIs w0 w' e rb g n cp pb z (connectP z n r (blank 1) c) := by
  have XW : Hid (Cs w0 (w.alloc (.cells #[.pointer (some ⟨rb, 0, none⟩), .int .i64 n] 110)) rb g n cp pb z r (blank 1) c) := h.below ((Below.refl _ _).alloc (Nat.le_refl _) _)
  have XV : Hid (Cs (w.alloc (.cells #[.pointer (some ⟨rb, 0, none⟩), .int .i64 n] 110)) (w.alloc (.cells #[.pointer (some ⟨rb, 0, none⟩), .int .i64 n] 110)) rb g n cp pb z r (blank 1) c) := XW.out.self (nx_blank 1)
  have LL : Hid (rb < w.heap.size ∧ pb < w.heap.size) := ⟨lt_of_block h.rd.rd, lt_of_block h.pk⟩
  have BX0 : Hid ((w.alloc (.cells #[.pointer (some ⟨rb, 0, none⟩), .int .i64 n] 110)).cell? ⟨w.heap.size, 0, none⟩ = some (.pointer (some ⟨rb, 0, none⟩))) := by show _ = _; simp [go_sem]
  have c0 : (w.alloc (.cells #[.pointer (some ⟨rb, 0, none⟩), .int .i64 n] 110)).cell? ⟨pb, 0, none⟩ = some (.int .i64 1) := XW.out.cell 0 _ rfl
  obtain ⟨R, hR⟩ : ∃ R, R = connectP z n r (blank 1) c := ⟨_, rfl⟩
  rw [← hR]
  have HR : Hid (R = connectP z n r (blank 1) c) := hR
  clear h hR
  go_enter Tryz.func76, Tryz.ntmps76
  go_wp2_with fail
  go_must (go_at_call 97)
  have T := connect_any XV.out
  rw [← HR.out] at T
  refine T.mono ?_
  rintro e w1 hO
  obtain ⟨v, rfl⟩ := hO.ret
  have HO : Hid (OutIs (w.alloc (.cells #[.pointer (some ⟨rb, 0, none⟩), .int .i64 n] 110)) w1 (.returned v) rb g n cp pb z R) := hO
  clear hO T
  go_wp2
  go_ret
  exact OutIs.lower XW.out HO.out

set_option maxRecDepth 100000 in
set_option maxHeartbeats 2000000 in
theorem into_connack {w0 w : World} {rb g n cp pb : Nat} {z : Nat → Int} {r : Rs} {c : Cn} (fl : Int) (h : Cs w0 w rb g n cp pb z r (blank 2) c) :
    Calls Tryz.prog 76 #[.agg #[.pointer (some ⟨rb, 0, none⟩), .int .i64 n], .pointer (some ⟨pb, 0, none⟩), .int .i64 fl] w fun e w' => OutIs w0 w' e rb g n cp pb z (connackP z n r (blank 2) c) := by
  have XW : Hid (Cs w0 (w.alloc (.cells #[.pointer (some ⟨rb, 0, none⟩), .int .i64 n] 110)) rb g n cp pb z r (blank 2) c) := h.below ((Below.refl _ _).alloc (Nat.le_refl _) _)
  have XV : Hid (Cs (w.alloc (.cells #[.pointer (some ⟨rb, 0, none⟩), .int .i64 n] 110)) (w.alloc (.cells #[.pointer (some ⟨rb, 0, none⟩), .int .i64 n] 110)) rb g n cp pb z r (blank 2) c) := XW.out.self (nx_blank 2)
  have LL : Hid (rb < w.heap.size ∧ pb < w.heap.size) := ⟨lt_of_block h.rd.rd, lt_of_block h.pk⟩
  have BX0 : Hid ((w.alloc (.cells #[.pointer (some ⟨rb, 0, none⟩), .int .i64 n] 110)).cell? ⟨w.heap.size, 0, none⟩ = some (.pointer (some ⟨rb, 0, none⟩))) := by show _ = _; simp [go_sem]
  have c0 : (w.alloc (.cells #[.pointer (some ⟨rb, 0, none⟩), .int .i64 n] 110)).cell? ⟨pb, 0, none⟩ = some (.int .i64 2) := XW.out.cell 0 _ rfl
  obtain ⟨R, hR⟩ : ∃ R, R = connackP z n r (blank 2) c := ⟨_, rfl⟩
  rw [← hR]
  have HR : Hid (R = connackP z n r (blank 2) c) := hR
  clear h hR
  go_enter Tryz.func76, Tryz.ntmps76
  go_wp2_with fail
  go_must (go_at_call 98)
  have T := connack_any XV.out
  rw [← HR.out] at T
  refine T.mono ?_
  rintro e w1 hO
  obtain ⟨v, rfl⟩ := hO.ret
  have HO : Hid (OutIs (w.alloc (.cells #[.pointer (some ⟨rb, 0, none⟩), .int .i64 n] 110)) w1 (.returned v) rb g n cp pb z R) := hO
  clear hO T
  go_wp2
  go_ret
  exact OutIs.lower XW.out HO.out

set_option maxRecDepth 100000 in
set_option maxHeartbeats 2000000 in
theorem into_publish {w0 w : World} {rb g n cp pb : Nat} {z : Nat → Int} {r : Rs} {c : Cn} (fl : Int) (h : Cs w0 w rb g n cp pb z r (blank 3) c) :
    Calls Tryz.prog 76 #[.agg #[.pointer (some ⟨rb, 0, none⟩), .int .i64 n], .pointer (some ⟨pb, 0, none⟩), .int .i64 fl] w fun e w' => OutIs w0 w' e rb g n cp pb z (errOut (publishP z n r (blank 3) c fl)) := by
  have XW : Hid (Cs w0 (w.alloc (.cells #[.pointer (some ⟨rb, 0, none⟩), .int .i64 n] 110)) rb g n cp pb z r (blank 3) c) := h.below ((Below.refl _ _).alloc (Nat.le_refl _) _)
  have XV : Hid (Cs (w.alloc (.cells #[.pointer (some ⟨rb, 0, none⟩), .int .i64 n] 110)) (w.alloc (.cells #[.pointer (some ⟨rb, 0, none⟩), .int .i64 n] 110)) rb g n cp pb z r (blank 3) c) := XW.out.self (nx_blank 3)
  have LL : Hid (rb < w.heap.size ∧ pb < w.heap.size) := ⟨lt_of_block h.rd.rd, lt_of_block h.pk⟩
  have BX0 : Hid ((w.alloc (.cells #[.pointer (some ⟨rb, 0, none⟩), .int .i64 n] 110)).cell? ⟨w.heap.size, 0, none⟩ = some (.pointer (some ⟨rb, 0, none⟩))) := by show _ = _; simp [go_sem]
  have c0 : (w.alloc (.cells #[.pointer (some ⟨rb, 0, none⟩), .int .i64 n] 110)).cell? ⟨pb, 0, none⟩ = some (.int .i64 3) := XW.out.cell 0 _ rfl
  obtain ⟨R, hR⟩ : ∃ R, R = errOut (publishP z n r (blank 3) c fl) := ⟨_, rfl⟩
  rw [← hR]
  have HR : Hid (R = errOut (publishP z n r (blank 3) c fl)) := hR
  clear h hR
  go_enter Tryz.func76, Tryz.ntmps76
  obtain ⟨Y, hY⟩ : ∃ Y, Y = publishP z n r (blank 3) c fl := ⟨_, rfl⟩
  rw [← hY] at HR
  have DD : Hid (Calls Tryz.prog 99 #[.agg #[.pointer (some ⟨rb, 0, none⟩), .int .i64 n], .pointer (some ⟨pb, 0, none⟩), .int .i64 fl] (w.alloc (.cells #[.pointer (some ⟨rb, 0, none⟩), .int .i64 n] 110)) fun e w' => e = .returned (.tuple #[]) ∧ Done (w.alloc (.cells #[.pointer (some ⟨rb, 0, none⟩), .int .i64 n] 110)) w' rb g n cp pb z Y) := by rw [hY]; exact publish_any fl XV.out
  clear hY
  go_wp2_with fail
  go_must (go_at_call 99)
  refine DD.out.mono ?_
  rintro e w1 ⟨rfl, q, hq, ha⟩
  have X1 : Hid (Cs (w.alloc (.cells #[.pointer (some ⟨rb, 0, none⟩), .int .i64 n] 110)) w1 rb g n cp pb z Y.1 q Y.2.2) := hq
  have AL : Hid (Alike q Y.2.1) := ha
  have BX1 : Hid (w1.cell? ⟨w.heap.size, 0, none⟩ = some (.pointer (some ⟨rb, 0, none⟩))) := by
    have q2 := hq.block w.heap.size (by simp) (by have := LL.out; omega) (by have := LL.out; omega)
    have q3 := BX0.out
    show _ = _
    unfold World.cell? at q3 ⊢
    rw [show ({ block := w.heap.size, off := 0 } : Addr).block = w.heap.size from rfl, q2]
    exact q3
  clear hq ha DD
  have bx := BX1.out
  go_wp2_with fail
  go_must (go_at_call 105)
  clear bx
  have T := err_out X1.out (Y.2.1) AL.out
  have EE : R = if (Y.1).q ≠ 0 then .error ((Y.1).p, (Y.1).q) else .ok (Y.1, Y.2.1, Y.2.2) := HR.out
  rw [← EE] at T
  refine T.mono ?_
  rintro e w6 hO
  obtain ⟨v, rfl⟩ := hO.ret
  have HO : Hid (OutIs (w.alloc (.cells #[.pointer (some ⟨rb, 0, none⟩), .int .i64 n] 110)) w6 (.returned v) rb g n cp pb z R) := hO
  clear hO T EE
  go_wp2
  go_ret
  exact OutIs.lower XW.out HO.out

set_option maxRecDepth 100000 in
set_option maxHeartbeats 2000000 in
theorem into_subscribe {w0 w : World} {rb g n cp pb : Nat} {z : Nat → Int} {r : Rs} {c : Cn} (fl : Int) (h : Cs w0 w rb g n cp pb z r (blank 8) c) :
    Calls Tryz.prog 76 #[.agg #[.pointer (some ⟨rb, 0, none⟩), .int .i64 n], .pointer (some ⟨pb, 0, none⟩), .int .i64 fl] w fun e w' => OutIs w0 w' e rb g n cp pb z (errOut (subP z n r (blank 8) c)) := by
  have XW : Hid (Cs w0 (w.alloc (.cells #[.pointer (some ⟨rb, 0, none⟩), .int .i64 n] 110)) rb g n cp pb z r (blank 8) c) := h.below ((Below.refl _ _).alloc (Nat.le_refl _) _)
  have XV : Hid (Cs (w.alloc (.cells #[.pointer (some ⟨rb, 0, none⟩), .int .i64 n] 110)) (w.alloc (.cells #[.pointer (some ⟨rb, 0, none⟩), .int .i64 n] 110)) rb g n cp pb z r (blank 8) c) := XW.out.self (nx_blank 8)
  have LL : Hid (rb < w.heap.size ∧ pb < w.heap.size) := ⟨lt_of_block h.rd.rd, lt_of_block h.pk⟩
  have BX0 : Hid ((w.alloc (.cells #[.pointer (some ⟨rb, 0, none⟩), .int .i64 n] 110)).cell? ⟨w.heap.size, 0, none⟩ = some (.pointer (some ⟨rb, 0, none⟩))) := by show _ = _; simp [go_sem]
  have c0 : (w.alloc (.cells #[.pointer (some ⟨rb, 0, none⟩), .int .i64 n] 110)).cell? ⟨pb, 0, none⟩ = some (.int .i64 8) := XW.out.cell 0 _ rfl
  obtain ⟨R, hR⟩ : ∃ R, R = errOut (subP z n r (blank 8) c) := ⟨_, rfl⟩
  rw [← hR]
  have HR : Hid (R = errOut (subP z n r (blank 8) c)) := hR
  clear h hR
  go_enter Tryz.func76, Tryz.ntmps76
  obtain ⟨Y, hY⟩ : ∃ Y, Y = subP z n r (blank 8) c := ⟨_, rfl⟩
  rw [← hY] at HR
  have DD : Hid (Calls Tryz.prog 100 #[.agg #[.pointer (some ⟨rb, 0, none⟩), .int .i64 n], .pointer (some ⟨pb, 0, none⟩)] (w.alloc (.cells #[.pointer (some ⟨rb, 0, none⟩), .int .i64 n] 110)) fun e w' => e = .returned (.tuple #[]) ∧ Done (w.alloc (.cells #[.pointer (some ⟨rb, 0, none⟩), .int .i64 n] 110)) w' rb g n cp pb z Y) := by rw [hY]; exact sub_any XV.out rfl
  clear hY
  go_wp2_with fail
  go_must (go_at_call 100)
  refine DD.out.mono ?_
  rintro e w1 ⟨rfl, q, hq, ha⟩
  have X1 : Hid (Cs (w.alloc (.cells #[.pointer (some ⟨rb, 0, none⟩), .int .i64 n] 110)) w1 rb g n cp pb z Y.1 q Y.2.2) := hq
  have AL : Hid (Alike q Y.2.1) := ha
  have BX1 : Hid (w1.cell? ⟨w.heap.size, 0, none⟩ = some (.pointer (some ⟨rb, 0, none⟩))) := by
    have q2 := hq.block w.heap.size (by simp) (by have := LL.out; omega) (by have := LL.out; omega)
    have q3 := BX0.out
    show _ = _
    unfold World.cell? at q3 ⊢
    rw [show ({ block := w.heap.size, off := 0 } : Addr).block = w.heap.size from rfl, q2]
    exact q3
  clear hq ha DD
  have bx := BX1.out
  go_wp2_with fail
  go_must (go_at_call 105)
  clear bx
  have T := err_out X1.out (Y.2.1) AL.out
  have EE : R = if (Y.1).q ≠ 0 then .error ((Y.1).p, (Y.1).q) else .ok (Y.1, Y.2.1, Y.2.2) := HR.out
  rw [← EE] at T
  refine T.mono ?_
  rintro e w6 hO
  obtain ⟨v, rfl⟩ := hO.ret
  have HO : Hid (OutIs (w.alloc (.cells #[.pointer (some ⟨rb, 0, none⟩), .int .i64 n] 110)) w6 (.returned v) rb g n cp pb z R) := hO
  clear hO T EE
  go_wp2
  go_ret
  exact OutIs.lower XW.out HO.out

set_option maxRecDepth 100000 in
set_option maxHeartbeats 2000000 in
theorem into_suback {w0 w : World} {rb g n cp pb : Nat} {z : Nat → Int} {r : Rs} {c : Cn} (fl : Int) (h : Cs w0 w rb g n cp pb z r (blank 9) c) :
    Calls Tryz.prog 76 #[.agg #[.pointer (some ⟨rb, 0, none⟩), .int .i64 n], .pointer (some ⟨pb, 0, none⟩), .int .i64 fl] w fun e w' => OutIs w0 w' e rb g n cp pb z (errOut (subackP z n r (blank 9) c)) := by
  have XW : Hid (Cs w0 (w.alloc (.cells #[.pointer (some ⟨rb, 0, none⟩), .int .i64 n] 110)) rb g n cp pb z r (blank 9) c) := h.below ((Below.refl _ _).alloc (Nat.le_refl _) _)
  have XV : Hid (Cs (w.alloc (.cells #[.pointer (some ⟨rb, 0, none⟩), .int .i64 n] 110)) (w.alloc (.cells #[.pointer (some ⟨rb, 0, none⟩), .int .i64 n] 110)) rb g n cp pb z r (blank 9) c) := XW.out.self (nx_blank 9)
  have LL : Hid (rb < w.heap.size ∧ pb < w.heap.size) := ⟨lt_of_block h.rd.rd, lt_of_block h.pk⟩
  have BX0 : Hid ((w.alloc (.cells #[.pointer (some ⟨rb, 0, none⟩), .int .i64 n] 110)).cell? ⟨w.heap.size, 0, none⟩ = some (.pointer (some ⟨rb, 0, none⟩))) := by show _ = _; simp [go_sem]
  have c0 : (w.alloc (.cells #[.pointer (some ⟨rb, 0, none⟩), .int .i64 n] 110)).cell? ⟨pb, 0, none⟩ = some (.int .i64 9) := XW.out.cell 0 _ rfl
  obtain ⟨R, hR⟩ : ∃ R, R = errOut (subackP z n r (blank 9) c) := ⟨_, rfl⟩
  rw [← hR]
  have HR : Hid (R = errOut (subackP z n r (blank 9) c)) := hR
  clear h hR
  go_enter Tryz.func76, Tryz.ntmps76
  obtain ⟨Y, hY⟩ : ∃ Y, Y = subackP z n r (blank 9) c := ⟨_, rfl⟩
  rw [← hY] at HR
  have DD : Hid (Calls Tryz.prog 101 #[.agg #[.pointer (some ⟨rb, 0, none⟩), .int .i64 n], .pointer (some ⟨pb, 0, none⟩)] (w.alloc (.cells #[.pointer (some ⟨rb, 0, none⟩), .int .i64 n] 110)) fun e w' => e = .returned (.tuple #[]) ∧ Done (w.alloc (.cells #[.pointer (some ⟨rb, 0, none⟩), .int .i64 n] 110)) w' rb g n cp pb z Y) := by rw [hY]; exact suback_any XV.out
  clear hY
  go_wp2_with fail
  go_must (go_at_call 101)
  refine DD.out.mono ?_
  rintro e w1 ⟨rfl, q, hq, ha⟩
  have X1 : Hid (Cs (w.alloc (.cells #[.pointer (some ⟨rb, 0, none⟩), .int .i64 n] 110)) w1 rb g n cp pb z Y.1 q Y.2.2) := hq
  have AL : Hid (Alike q Y.2.1) := ha
  have BX1 : Hid (w1.cell? ⟨w.heap.size, 0, none⟩ = some (.pointer (some ⟨rb, 0, none⟩))) := by
    have q2 := hq.block w.heap.size (by simp) (by have := LL.out; omega) (by have := LL.out; omega)
    have q3 := BX0.out
    show _ = _
    unfold World.cell? at q3 ⊢
    rw [show ({ block := w.heap.size, off := 0 } : Addr).block = w.heap.size from rfl, q2]
    exact q3
  clear hq ha DD
  have bx := BX1.out
  go_wp2_with fail
  go_must (go_at_call 105)
  clear bx
  have T := err_out X1.out (Y.2.1) AL.out
  have EE : R = if (Y.1).q ≠ 0 then .error ((Y.1).p, (Y.1).q) else .ok (Y.1, Y.2.1, Y.2.2) := HR.out
  rw [← EE] at T
  refine T.mono ?_
  rintro e w6 hO
  obtain ⟨v, rfl⟩ := hO.ret
  have HO : Hid (OutIs (w.alloc (.cells #[.pointer (some ⟨rb, 0, none⟩), .int .i64 n] 110)) w6 (.returned v) rb g n cp pb z R) := hO
  clear hO T EE
  go_wp2
  go_ret
  exact OutIs.lower XW.out HO.out

set_option maxRecDepth 100000 in
set_option maxHeartbeats 2000000 in
theorem into_unsubscribe {w0 w : World} {rb g n cp pb : Nat} {z : Nat → Int} {r : Rs} {c : Cn} (fl : Int) (h : Cs w0 w rb g n cp pb z r (blank 10) c) :
    Calls Tryz.prog 76 #[.agg #[.pointer (some ⟨rb, 0, none⟩), .int .i64 n], .pointer (some ⟨pb, 0, none⟩), .int .i64 fl] w fun e w' => OutIs w0 w' e rb g n cp pb z (errOut (unsP z n r (blank 10) c)) := by
  have XW : Hid (Cs w0 (w.alloc (.cells #[.pointer (some ⟨rb, 0, none⟩), .int .i64 n] 110)) rb g n cp pb z r (blank 10) c) := h.below ((Below.refl _ _).alloc (Nat.le_refl _) _)
  have XV : Hid (Cs (w.alloc (.cells #[.pointer (some ⟨rb, 0, none⟩), .int .i64 n] 110)) (w.alloc (.cells #[.pointer (some ⟨rb, 0, none⟩), .int .i64 n] 110)) rb g n cp pb z r (blank 10) c) := XW.out.self (nx_blank 10)
  have LL : Hid (rb < w.heap.size ∧ pb < w.heap.size) := ⟨lt_of_block h.rd.rd, lt_of_block h.pk⟩
  have BX0 : Hid ((w.alloc (.cells #[.pointer (some ⟨rb, 0, none⟩), .int .i64 n] 110)).cell? ⟨w.heap.size, 0, none⟩ = some (.pointer (some ⟨rb, 0, none⟩))) := by show _ = _; simp [go_sem]
  have c0 : (w.alloc (.cells #[.pointer (some ⟨rb, 0, none⟩), .int .i64 n] 110)).cell? ⟨pb, 0, none⟩ = some (.int .i64 10) := XW.out.cell 0 _ rfl
  obtain ⟨R, hR⟩ : ∃ R, R = errOut (unsP z n r (blank 10) c) := ⟨_, rfl⟩
  rw [← hR]
  have HR : Hid (R = errOut (unsP z n r (blank 10) c)) := hR
  clear h hR
  go_enter Tryz.func76, Tryz.ntmps76
  obtain ⟨Y, hY⟩ : ∃ Y, Y = unsP z n r (blank 10) c := ⟨_, rfl⟩
  rw [← hY] at HR
  have DD : Hid (Calls Tryz.prog 102 #[.agg #[.pointer (some ⟨rb, 0, none⟩), .int .i64 n], .pointer (some ⟨pb, 0, none⟩)] (w.alloc (.cells #[.pointer (some ⟨rb, 0, none⟩), .int .i64 n] 110)) fun e w' => e = .returned (.tuple #[]) ∧ Done (w.alloc (.cells #[.pointer (some ⟨rb, 0, none⟩), .int .i64 n] 110)) w' rb g n cp pb z Y) := by rw [hY]; exact uns_any XV.out rfl
  clear hY
  go_wp2_with fail
  go_must (go_at_call 102)
  refine DD.out.mono ?_
  rintro e w1 ⟨rfl, q, hq, ha⟩
  have X1 : Hid (Cs (w.alloc (.cells #[.pointer (some ⟨rb, 0, none⟩), .int .i64 n] 110)) w1 rb g n cp pb z Y.1 q Y.2.2) := hq
  have AL : Hid (Alike q Y.2.1) := ha
  have BX1 : Hid (w1.cell? ⟨w.heap.size, 0, none⟩ = some (.pointer (some ⟨rb, 0, none⟩))) := by
    have q2 := hq.block w.heap.size (by simp) (by have := LL.out; omega) (by have := LL.out; omega)
    have q3 := BX0.out
    show _ = _
    unfold World.cell? at q3 ⊢
    rw [show ({ block := w.heap.size, off := 0 } : Addr).block = w.heap.size from rfl, q2]
    exact q3
  clear hq ha DD
  have bx := BX1.out
  go_wp2_with fail
  go_must (go_at_call 105)
  clear bx
  have T := err_out X1.out (Y.2.1) AL.out
  have EE : R = if (Y.1).q ≠ 0 then .error ((Y.1).p, (Y.1).q) else .ok (Y.1, Y.2.1, Y.2.2) := HR.out
  rw [← EE] at T
  refine T.mono ?_
  rintro e w6 hO
  obtain ⟨v, rfl⟩ := hO.ret
  have HO : Hid (OutIs (w.alloc (.cells #[.pointer (some ⟨rb, 0, none⟩), .int .i64 n] 110)) w6 (.returned v) rb g n cp pb z R) := hO
  clear hO T EE
  go_wp2
  go_ret
  exact OutIs.lower XW.out HO.out

set_option maxRecDepth 100000 in
set_option maxHeartbeats 2000000 in
theorem into_4 {w0 w : World} {rb g n cp pb : Nat} {z : Nat → Int} {r : Rs} {c : Cn} (fl : Int) (h : Cs w0 w rb g n cp pb z r (blank 4) c) :
    Calls Tryz.prog 76 #[.agg #[.pointer (some ⟨rb, 0, none⟩), .int .i64 n], .pointer (some ⟨pb, 0, none⟩), .int .i64 fl] w fun e w' => OutIs w0 w' e rb g n cp pb z (errOut (idP z n r (blank 4) c)) := by
  have XW : Hid (Cs w0 (w.alloc (.cells #[.pointer (some ⟨rb, 0, none⟩), .int .i64 n] 110)) rb g n cp pb z r (blank 4) c) := h.below ((Below.refl _ _).alloc (Nat.le_refl _) _)
  have XV : Hid (Cs (w.alloc (.cells #[.pointer (some ⟨rb, 0, none⟩), .int .i64 n] 110)) (w.alloc (.cells #[.pointer (some ⟨rb, 0, none⟩), .int .i64 n] 110)) rb g n cp pb z r (blank 4) c) := XW.out.self (nx_blank 4)
  have LL : Hid (rb < w.heap.size ∧ pb < w.heap.size) := ⟨lt_of_block h.rd.rd, lt_of_block h.pk⟩
  have BX0 : Hid ((w.alloc (.cells #[.pointer (some ⟨rb, 0, none⟩), .int .i64 n] 110)).cell? ⟨w.heap.size, 0, none⟩ = some (.pointer (some ⟨rb, 0, none⟩))) := by show _ = _; simp [go_sem]
  have c0 : (w.alloc (.cells #[.pointer (some ⟨rb, 0, none⟩), .int .i64 n] 110)).cell? ⟨pb, 0, none⟩ = some (.int .i64 4) := XW.out.cell 0 _ rfl
  obtain ⟨R, hR⟩ : ∃ R, R = errOut (idP z n r (blank 4) c) := ⟨_, rfl⟩
  rw [← hR]
  have HR : Hid (R = errOut (idP z n r (blank 4) c)) := hR
  clear h hR
  go_enter Tryz.func76, Tryz.ntmps76
  obtain ⟨t, ht⟩ : ∃ y, y = rNum z n r := ⟨_, rfl⟩
  have H1 : Hid (t = rNum z n r) := ht
  obtain ⟨r2, hr2⟩ : ∃ y, y = rEnd n t.2 := ⟨_, rfl⟩
  have H2 : Hid (r2 = rEnd n t.2) := hr2
  rw [idP, ← ht, ← hr2] at HR
  clear ht hr2
  obtain ⟨t, r1⟩ := t
  simp only at H2 HR
  have bx := BX0.out
  go_wp2_with fail
  go_must (go_at_call 103)
  clear bx c0
  refine (number_any XV.out.rd).mono ?_
  rw [← H1.out]
  rintro e v1 ⟨rfl, hr, hg⟩
  have X1 : Hid (Cs (w.alloc (.cells #[.pointer (some ⟨rb, 0, none⟩), .int .i64 n] 110)) v1 rb g n cp pb z r1 (blank 4) c) := XV.out.read hr hg
  have BX1 : Hid (v1.cell? ⟨w.heap.size, 0, none⟩ = some (.pointer (some ⟨rb, 0, none⟩))) := hg.cell BX0.out (by have := LL.out; simp; omega)
  clear hr hg
  have e21 := X1.out.cell 21 (.int .i64 0) rfl
  have z21 := X1.out.frozen 21
  obtain ⟨v2, hW⟩ : ∃ W, W = v1.setCell ⟨pb, 21, none⟩ (.int .i64 t) := ⟨_, rfl⟩
  have X2 := (show Hid _ from X1.out.setS 21 (.int .i64 t) ({ blank 4 with id := t }) rfl rfl rfl rfl rfl rfl rfl)
  rw [← hW] at X2
  have BX2 : Hid (v2.cell? ⟨w.heap.size, 0, none⟩ = some (.pointer (some ⟨rb, 0, none⟩))) := by show _ = _; rw [hW]; exact bx_set BX1.out (by have := LL.out; omega)
  go_upto_region 23 with fail
  rw [← hW]
  clear hW e21 z21
  have bx := BX2.out
  go_wp2_with fail
  go_must (go_at_call 104)
  clear bx
  refine (end_any X2.out.rd).mono ?_
  rw [← H2.out]
  rintro e v3 ⟨rfl, hr, hg⟩
  have X3 : Hid (Cs (w.alloc (.cells #[.pointer (some ⟨rb, 0, none⟩), .int .i64 n] 110)) v3 rb g n cp pb z r2 ({ blank 4 with id := t }) c) := X2.out.read hr hg
  have BX3 : Hid (v3.cell? ⟨w.heap.size, 0, none⟩ = some (.pointer (some ⟨rb, 0, none⟩))) := hg.cell BX2.out (by have := LL.out; simp; omega)
  clear hr hg
  have bx := BX3.out
  go_wp2_with fail
  go_must (go_at_call 105)
  clear bx
  have T := err_out X3.out ({ blank 4 with id := t }) (Alike.refl _)
  have EE : R = if (r2).q ≠ 0 then .error ((r2).p, (r2).q) else .ok (r2, { blank 4 with id := t }, c) := HR.out
  rw [← EE] at T
  refine T.mono ?_
  rintro e w6 hO
  obtain ⟨v, rfl⟩ := hO.ret
  have HO : Hid (OutIs (w.alloc (.cells #[.pointer (some ⟨rb, 0, none⟩), .int .i64 n] 110)) w6 (.returned v) rb g n cp pb z R) := hO
  clear hO T EE
  go_wp2
  go_ret
  exact OutIs.lower XW.out HO.out

set_option maxRecDepth 100000 in
set_option maxHeartbeats 2000000 in
theorem into_5 {w0 w : World} {rb g n cp pb : Nat} {z : Nat → Int} {r : Rs} {c : Cn} (fl : Int) (h : Cs w0 w rb g n cp pb z r (blank 5) c) :
    Calls Tryz.prog 76 #[.agg #[.pointer (some ⟨rb, 0, none⟩), .int .i64 n], .pointer (some ⟨pb, 0, none⟩), .int .i64 fl] w fun e w' => OutIs w0 w' e rb g n cp pb z (errOut (idP z n r (blank 5) c)) := by
  have XW : Hid (Cs w0 (w.alloc (.cells #[.pointer (some ⟨rb, 0, none⟩), .int .i64 n] 110)) rb g n cp pb z r (blank 5) c) := h.below ((Below.refl _ _).alloc (Nat.le_refl _) _)
  have XV : Hid (Cs (w.alloc (.cells #[.pointer (some ⟨rb, 0, none⟩), .int .i64 n] 110)) (w.alloc (.cells #[.pointer (some ⟨rb, 0, none⟩), .int .i64 n] 110)) rb g n cp pb z r (blank 5) c) := XW.out.self (nx_blank 5)
  have LL : Hid (rb < w.heap.size ∧ pb < w.heap.size) := ⟨lt_of_block h.rd.rd, lt_of_block h.pk⟩
  have BX0 : Hid ((w.alloc (.cells #[.pointer (some ⟨rb, 0, none⟩), .int .i64 n] 110)).cell? ⟨w.heap.size, 0, none⟩ = some (.pointer (some ⟨rb, 0, none⟩))) := by show _ = _; simp [go_sem]
  have c0 : (w.alloc (.cells #[.pointer (some ⟨rb, 0, none⟩), .int .i64 n] 110)).cell? ⟨pb, 0, none⟩ = some (.int .i64 5) := XW.out.cell 0 _ rfl
  obtain ⟨R, hR⟩ : ∃ R, R = errOut (idP z n r (blank 5) c) := ⟨_, rfl⟩
  rw [← hR]
  have HR : Hid (R = errOut (idP z n r (blank 5) c)) := hR
  clear h hR
  go_enter Tryz.func76, Tryz.ntmps76
  obtain ⟨t, ht⟩ : ∃ y, y = rNum z n r := ⟨_, rfl⟩
  have H1 : Hid (t = rNum z n r) := ht
  obtain ⟨r2, hr2⟩ : ∃ y, y = rEnd n t.2 := ⟨_, rfl⟩
  have H2 : Hid (r2 = rEnd n t.2) := hr2
  rw [idP, ← ht, ← hr2] at HR
  clear ht hr2
  obtain ⟨t, r1⟩ := t
  simp only at H2 HR
  have bx := BX0.out
  go_wp2_with fail
  go_must (go_at_call 103)
  clear bx c0
  refine (number_any XV.out.rd).mono ?_
  rw [← H1.out]
  rintro e v1 ⟨rfl, hr, hg⟩
  have X1 : Hid (Cs (w.alloc (.cells #[.pointer (some ⟨rb, 0, none⟩), .int .i64 n] 110)) v1 rb g n cp pb z r1 (blank 5) c) := XV.out.read hr hg
  have BX1 : Hid (v1.cell? ⟨w.heap.size, 0, none⟩ = some (.pointer (some ⟨rb, 0, none⟩))) := hg.cell BX0.out (by have := LL.out; simp; omega)
  clear hr hg
  have e21 := X1.out.cell 21 (.int .i64 0) rfl
  have z21 := X1.out.frozen 21
  obtain ⟨v2, hW⟩ : ∃ W, W = v1.setCell ⟨pb, 21, none⟩ (.int .i64 t) := ⟨_, rfl⟩
  have X2 := (show Hid _ from X1.out.setS 21 (.int .i64 t) ({ blank 5 with id := t }) rfl rfl rfl rfl rfl rfl rfl)
  rw [← hW] at X2
  have BX2 : Hid (v2.cell? ⟨w.heap.size, 0, none⟩ = some (.pointer (some ⟨rb, 0, none⟩))) := by show _ = _; rw [hW]; exact bx_set BX1.out (by have := LL.out; omega)
  go_upto_region 23 with fail
  rw [← hW]
  clear hW e21 z21
  have bx := BX2.out
  go_wp2_with fail
  go_must (go_at_call 104)
  clear bx
  refine (end_any X2.out.rd).mono ?_
  rw [← H2.out]
  rintro e v3 ⟨rfl, hr, hg⟩
  have X3 : Hid (Cs (w.alloc (.cells #[.pointer (some ⟨rb, 0, none⟩), .int .i64 n] 110)) v3 rb g n cp pb z r2 ({ blank 5 with id := t }) c) := X2.out.read hr hg
  have BX3 : Hid (v3.cell? ⟨w.heap.size, 0, none⟩ = some (.pointer (some ⟨rb, 0, none⟩))) := hg.cell BX2.out (by have := LL.out; simp; omega)
  clear hr hg
  have bx := BX3.out
  go_wp2_with fail
  go_must (go_at_call 105)
  clear bx
  have T := err_out X3.out ({ blank 5 with id := t }) (Alike.refl _)
  have EE : R = if (r2).q ≠ 0 then .error ((r2).p, (r2).q) else .ok (r2, { blank 5 with id := t }, c) := HR.out
  rw [← EE] at T
  refine T.mono ?_
  rintro e w6 hO
  obtain ⟨v, rfl⟩ := hO.ret
  have HO : Hid (OutIs (w.alloc (.cells #[.pointer (some ⟨rb, 0, none⟩), .int .i64 n] 110)) w6 (.returned v) rb g n cp pb z R) := hO
  clear hO T EE
  go_wp2
  go_ret
  exact OutIs.lower XW.out HO.out

set_option maxRecDepth 100000 in
set_option maxHeartbeats 2000000 in
theorem into_6 {w0 w : World} {rb g n cp pb : Nat} {z : Nat → Int} {r : Rs} {c : Cn} (fl : Int) (h : Cs w0 w rb g n cp pb z r (blank 6) c) :
    Calls Tryz.prog 76 #[.agg #[.pointer (some ⟨rb, 0, none⟩), .int .i64 n], .pointer (some ⟨pb, 0, none⟩), .int .i64 fl] w fun e w' => OutIs w0 w' e rb g n cp pb z (errOut (idP z n r (blank 6) c)) := by
  have XW : Hid (Cs w0 (w.alloc (.cells #[.pointer (some ⟨rb, 0, none⟩), .int .i64 n] 110)) rb g n cp pb z r (blank 6) c) := h.below ((Below.refl _ _).alloc (Nat.le_refl _) _)
  have XV : Hid (Cs (w.alloc (.cells #[.pointer (some ⟨rb, 0, none⟩), .int .i64 n] 110)) (w.alloc (.cells #[.pointer (some ⟨rb, 0, none⟩), .int .i64 n] 110)) rb g n cp pb z r (blank 6) c) := XW.out.self (nx_blank 6)
  have LL : Hid (rb < w.heap.size ∧ pb < w.heap.size) := ⟨lt_of_block h.rd.rd, lt_of_block h.pk⟩
  have BX0 : Hid ((w.alloc (.cells #[.pointer (some ⟨rb, 0, none⟩), .int .i64 n] 110)).cell? ⟨w.heap.size, 0, none⟩ = some (.pointer (some ⟨rb, 0, none⟩))) := by show _ = _; simp [go_sem]
  have c0 : (w.alloc (.cells #[.pointer (some ⟨rb, 0, none⟩), .int .i64 n] 110)).cell? ⟨pb, 0, none⟩ = some (.int .i64 6) := XW.out.cell 0 _ rfl
  obtain ⟨R, hR⟩ : ∃ R, R = errOut (idP z n r (blank 6) c) := ⟨_, rfl⟩
  rw [← hR]
  have HR : Hid (R = errOut (idP z n r (blank 6) c)) := hR
  clear h hR
  go_enter Tryz.func76, Tryz.ntmps76
  obtain ⟨t, ht⟩ : ∃ y, y = rNum z n r := ⟨_, rfl⟩
  have H1 : Hid (t = rNum z n r) := ht
  obtain ⟨r2, hr2⟩ : ∃ y, y = rEnd n t.2 := ⟨_, rfl⟩
  have H2 : Hid (r2 = rEnd n t.2) := hr2
  rw [idP, ← ht, ← hr2] at HR
  clear ht hr2
  obtain ⟨t, r1⟩ := t
  simp only at H2 HR
  have bx := BX0.out
  go_wp2_with fail
  go_must (go_at_call 103)
  clear bx c0
  refine (number_any XV.out.rd).mono ?_
  rw [← H1.out]
  rintro e v1 ⟨rfl, hr, hg⟩
  have X1 : Hid (Cs (w.alloc (.cells #[.pointer (some ⟨rb, 0, none⟩), .int .i64 n] 110)) v1 rb g n cp pb z r1 (blank 6) c) := XV.out.read hr hg
  have BX1 : Hid (v1.cell? ⟨w.heap.size, 0, none⟩ = some (.pointer (some ⟨rb, 0, none⟩))) := hg.cell BX0.out (by have := LL.out; simp; omega)
  clear hr hg
  have e21 := X1.out.cell 21 (.int .i64 0) rfl
  have z21 := X1.out.frozen 21
  obtain ⟨v2, hW⟩ : ∃ W, W = v1.setCell ⟨pb, 21, none⟩ (.int .i64 t) := ⟨_, rfl⟩
  have X2 := (show Hid _ from X1.out.setS 21 (.int .i64 t) ({ blank 6 with id := t }) rfl rfl rfl rfl rfl rfl rfl)
  rw [← hW] at X2
  have BX2 : Hid (v2.cell? ⟨w.heap.size, 0, none⟩ = some (.pointer (some ⟨rb, 0, none⟩))) := by show _ = _; rw [hW]; exact bx_set BX1.out (by have := LL.out; omega)
  go_upto_region 23 with fail
  rw [← hW]
  clear hW e21 z21
  have bx := BX2.out
  go_wp2_with fail
  go_must (go_at_call 104)
  clear bx
  refine (end_any X2.out.rd).mono ?_
  rw [← H2.out]
  rintro e v3 ⟨rfl, hr, hg⟩
  have X3 : Hid (Cs (w.alloc (.cells #[.pointer (some ⟨rb, 0, none⟩), .int .i64 n] 110)) v3 rb g n cp pb z r2 ({ blank 6 with id := t }) c) := X2.out.read hr hg
  have BX3 : Hid (v3.cell? ⟨w.heap.size, 0, none⟩ = some (.pointer (some ⟨rb, 0, none⟩))) := hg.cell BX2.out (by have := LL.out; simp; omega)
  clear hr hg
  have bx := BX3.out
  go_wp2_with fail
  go_must (go_at_call 105)
  clear bx
  have T := err_out X3.out ({ blank 6 with id := t }) (Alike.refl _)
  have EE : R = if (r2).q ≠ 0 then .error ((r2).p, (r2).q) else .ok (r2, { blank 6 with id := t }, c) := HR.out
  rw [← EE] at T
  refine T.mono ?_
  rintro e w6 hO
  obtain ⟨v, rfl⟩ := hO.ret
  have HO : Hid (OutIs (w.alloc (.cells #[.pointer (some ⟨rb, 0, none⟩), .int .i64 n] 110)) w6 (.returned v) rb g n cp pb z R) := hO
  clear hO T EE
  go_wp2
  go_ret
  exact OutIs.lower XW.out HO.out

set_option maxRecDepth 100000 in
set_option maxHeartbeats 2000000 in
theorem into_7 {w0 w : World} {rb g n cp pb : Nat} {z : Nat → Int} {r : Rs} {c : Cn} (fl : Int) (h : Cs w0 w rb g n cp pb z r (blank 7) c) :
    Calls Tryz.prog 76 #[.agg #[.pointer (some ⟨rb, 0, none⟩), .int .i64 n], .pointer (some ⟨pb, 0, none⟩), .int .i64 fl] w fun e w' => OutIs w0 w' e rb g n cp pb z (errOut (idP z n r (blank 7) c)) := by
  have XW : Hid (Cs w0 (w.alloc (.cells #[.pointer (some ⟨rb, 0, none⟩), .int .i64 n] 110)) rb g n cp pb z r (blank 7) c) := h.below ((Below.refl _ _).alloc (Nat.le_refl _) _)
  have XV : Hid (Cs (w.alloc (.cells #[.pointer (some ⟨rb, 0, none⟩), .int .i64 n] 110)) (w.alloc (.cells #[.pointer (some ⟨rb, 0, none⟩), .int .i64 n] 110)) rb g n cp pb z r (blank 7) c) := XW.out.self (nx_blank 7)
  have LL : Hid (rb < w.heap.size ∧ pb < w.heap.size) := ⟨lt_of_block h.rd.rd, lt_of_block h.pk⟩
  have BX0 : Hid ((w.alloc (.cells #[.pointer (some ⟨rb, 0, none⟩), .int .i64 n] 110)).cell? ⟨w.heap.size, 0, none⟩ = some (.pointer (some ⟨rb, 0, none⟩))) := by show _ = _; simp [go_sem]
  have c0 : (w.alloc (.cells #[.pointer (some ⟨rb, 0, none⟩), .int .i64 n] 110)).cell? ⟨pb, 0, none⟩ = some (.int .i64 7) := XW.out.cell 0 _ rfl
  obtain ⟨R, hR⟩ : ∃ R, R = errOut (idP z n r (blank 7) c) := ⟨_, rfl⟩
  rw [← hR]
  have HR : Hid (R = errOut (idP z n r (blank 7) c)) := hR
  clear h hR
  go_enter Tryz.func76, Tryz.ntmps76
  obtain ⟨t, ht⟩ : ∃ y, y = rNum z n r := ⟨_, rfl⟩
  have H1 : Hid (t = rNum z n r) := ht
  obtain ⟨r2, hr2⟩ : ∃ y, y = rEnd n t.2 := ⟨_, rfl⟩
  have H2 : Hid (r2 = rEnd n t.2) := hr2
  rw [idP, ← ht, ← hr2] at HR
  clear ht hr2
  obtain ⟨t, r1⟩ := t
  simp only at H2 HR
  have bx := BX0.out
  go_wp2_with fail
  go_must (go_at_call 103)
  clear bx c0
  refine (number_any XV.out.rd).mono ?_
  rw [← H1.out]
  rintro e v1 ⟨rfl, hr, hg⟩
  have X1 : Hid (Cs (w.alloc (.cells #[.pointer (some ⟨rb, 0, none⟩), .int .i64 n] 110)) v1 rb g n cp pb z r1 (blank 7) c) := XV.out.read hr hg
  have BX1 : Hid (v1.cell? ⟨w.heap.size, 0, none⟩ = some (.pointer (some ⟨rb, 0, none⟩))) := hg.cell BX0.out (by have := LL.out; simp; omega)
  clear hr hg
  have e21 := X1.out.cell 21 (.int .i64 0) rfl
  have z21 := X1.out.frozen 21
  obtain ⟨v2, hW⟩ : ∃ W, W = v1.setCell ⟨pb, 21, none⟩ (.int .i64 t) := ⟨_, rfl⟩
  have X2 := (show Hid _ from X1.out.setS 21 (.int .i64 t) ({ blank 7 with id := t }) rfl rfl rfl rfl rfl rfl rfl)
  rw [← hW] at X2
  have BX2 : Hid (v2.cell? ⟨w.heap.size, 0, none⟩ = some (.pointer (some ⟨rb, 0, none⟩))) := by show _ = _; rw [hW]; exact bx_set BX1.out (by have := LL.out; omega)
  go_upto_region 23 with fail
  rw [← hW]
  clear hW e21 z21
  have bx := BX2.out
  go_wp2_with fail
  go_must (go_at_call 104)
  clear bx
  refine (end_any X2.out.rd).mono ?_
  rw [← H2.out]
  rintro e v3 ⟨rfl, hr, hg⟩
  have X3 : Hid (Cs (w.alloc (.cells #[.pointer (some ⟨rb, 0, none⟩), .int .i64 n] 110)) v3 rb g n cp pb z r2 ({ blank 7 with id := t }) c) := X2.out.read hr hg
  have BX3 : Hid (v3.cell? ⟨w.heap.size, 0, none⟩ = some (.pointer (some ⟨rb, 0, none⟩))) := hg.cell BX2.out (by have := LL.out; simp; omega)
  clear hr hg
  have bx := BX3.out
  go_wp2_with fail
  go_must (go_at_call 105)
  clear bx
  have T := err_out X3.out ({ blank 7 with id := t }) (Alike.refl _)
  have EE : R = if (r2).q ≠ 0 then .error ((r2).p, (r2).q) else .ok (r2, { blank 7 with id := t }, c) := HR.out
  rw [← EE] at T
  refine T.mono ?_
  rintro e w6 hO
  obtain ⟨v, rfl⟩ := hO.ret
  have HO : Hid (OutIs (w.alloc (.cells #[.pointer (some ⟨rb, 0, none⟩), .int .i64 n] 110)) w6 (.returned v) rb g n cp pb z R) := hO
  clear hO T EE
  go_wp2
  go_ret
  exact OutIs.lower XW.out HO.out

set_option maxRecDepth 100000 in
set_option maxHeartbeats 2000000 in
theorem into_11 {w0 w : World} {rb g n cp pb : Nat} {z : Nat → Int} {r : Rs} {c : Cn} (fl : Int) (h : Cs w0 w rb g n cp pb z r (blank 11) c) :
    Calls Tryz.prog 76 #[.agg #[.pointer (some ⟨rb, 0, none⟩), .int .i64 n], .pointer (some ⟨pb, 0, none⟩), .int .i64 fl] w fun e w' => OutIs w0 w' e rb g n cp pb z (errOut (idP z n r (blank 11) c)) := by
  have XW : Hid (Cs w0 (w.alloc (.cells #[.pointer (some ⟨rb, 0, none⟩), .int .i64 n] 110)) rb g n cp pb z r (blank 11) c) := h.below ((Below.refl _ _).alloc (Nat.le_refl _) _)
  have XV : Hid (Cs (w.alloc (.cells #[.pointer (some ⟨rb, 0, none⟩), .int .i64 n] 110)) (w.alloc (.cells #[.pointer (some ⟨rb, 0, none⟩), .int .i64 n] 110)) rb g n cp pb z r (blank 11) c) := XW.out.self (nx_blank 11)
  have LL : Hid (rb < w.heap.size ∧ pb < w.heap.size) := ⟨lt_of_block h.rd.rd, lt_of_block h.pk⟩
  have BX0 : Hid ((w.alloc (.cells #[.pointer (some ⟨rb, 0, none⟩), .int .i64 n] 110)).cell? ⟨w.heap.size, 0, none⟩ = some (.pointer (some ⟨rb, 0, none⟩))) := by show _ = _; simp [go_sem]
  have c0 : (w.alloc (.cells #[.pointer (some ⟨rb, 0, none⟩), .int .i64 n] 110)).cell? ⟨pb, 0, none⟩ = some (.int .i64 11) := XW.out.cell 0 _ rfl
  obtain ⟨R, hR⟩ : ∃ R, R = errOut (idP z n r (blank 11) c) := ⟨_, rfl⟩
  rw [← hR]
  have HR : Hid (R = errOut (idP z n r (blank 11) c)) := hR
  clear h hR
  go_enter Tryz.func76, Tryz.ntmps76
  obtain ⟨t, ht⟩ : ∃ y, y = rNum z n r := ⟨_, rfl⟩
  have H1 : Hid (t = rNum z n r) := ht
  obtain ⟨r2, hr2⟩ : ∃ y, y = rEnd n t.2 := ⟨_, rfl⟩
  have H2 : Hid (r2 = rEnd n t.2) := hr2
  rw [idP, ← ht, ← hr2] at HR
  clear ht hr2
  obtain ⟨t, r1⟩ := t
  simp only at H2 HR
  have bx := BX0.out
  go_wp2_with fail
  go_must (go_at_call 103)
  clear bx c0
  refine (number_any XV.out.rd).mono ?_
  rw [← H1.out]
  rintro e v1 ⟨rfl, hr, hg⟩
  have X1 : Hid (Cs (w.alloc (.cells #[.pointer (some ⟨rb, 0, none⟩), .int .i64 n] 110)) v1 rb g n cp pb z r1 (blank 11) c) := XV.out.read hr hg
  have BX1 : Hid (v1.cell? ⟨w.heap.size, 0, none⟩ = some (.pointer (some ⟨rb, 0, none⟩))) := hg.cell BX0.out (by have := LL.out; simp; omega)
  clear hr hg
  have e21 := X1.out.cell 21 (.int .i64 0) rfl
  have z21 := X1.out.frozen 21
  obtain ⟨v2, hW⟩ : ∃ W, W = v1.setCell ⟨pb, 21, none⟩ (.int .i64 t) := ⟨_, rfl⟩
  have X2 := (show Hid _ from X1.out.setS 21 (.int .i64 t) ({ blank 11 with id := t }) rfl rfl rfl rfl rfl rfl rfl)
  rw [← hW] at X2
  have BX2 : Hid (v2.cell? ⟨w.heap.size, 0, none⟩ = some (.pointer (some ⟨rb, 0, none⟩))) := by show _ = _; rw [hW]; exact bx_set BX1.out (by have := LL.out; omega)
  go_upto_region 23 with fail
  rw [← hW]
  clear hW e21 z21
  have bx := BX2.out
  go_wp2_with fail
  go_must (go_at_call 104)
  clear bx
  refine (end_any X2.out.rd).mono ?_
  rw [← H2.out]
  rintro e v3 ⟨rfl, hr, hg⟩
  have X3 : Hid (Cs (w.alloc (.cells #[.pointer (some ⟨rb, 0, none⟩), .int .i64 n] 110)) v3 rb g n cp pb z r2 ({ blank 11 with id := t }) c) := X2.out.read hr hg
  have BX3 : Hid (v3.cell? ⟨w.heap.size, 0, none⟩ = some (.pointer (some ⟨rb, 0, none⟩))) := hg.cell BX2.out (by have := LL.out; simp; omega)
  clear hr hg
  have bx := BX3.out
  go_wp2_with fail
  go_must (go_at_call 105)
  clear bx
  have T := err_out X3.out ({ blank 11 with id := t }) (Alike.refl _)
  have EE : R = if (r2).q ≠ 0 then .error ((r2).p, (r2).q) else .ok (r2, { blank 11 with id := t }, c) := HR.out
  rw [← EE] at T
  refine T.mono ?_
  rintro e w6 hO
  obtain ⟨v, rfl⟩ := hO.ret
  have HO : Hid (OutIs (w.alloc (.cells #[.pointer (some ⟨rb, 0, none⟩), .int .i64 n] 110)) w6 (.returned v) rb g n cp pb z R) := hO
  clear hO T EE
  go_wp2
  go_ret
  exact OutIs.lower XW.out HO.out

set_option maxRecDepth 100000 in
set_option maxHeartbeats 2000000 in
theorem into_12 {w0 w : World} {rb g n cp pb : Nat} {z : Nat → Int} {r : Rs} {c : Cn} (fl : Int) (h : Cs w0 w rb g n cp pb z r (blank 12) c) :
    Calls Tryz.prog 76 #[.agg #[.pointer (some ⟨rb, 0, none⟩), .int .i64 n], .pointer (some ⟨pb, 0, none⟩), .int .i64 fl] w fun e w' => OutIs w0 w' e rb g n cp pb z (errOut (rEnd n r, blank 12, c)) := by
  have XW : Hid (Cs w0 (w.alloc (.cells #[.pointer (some ⟨rb, 0, none⟩), .int .i64 n] 110)) rb g n cp pb z r (blank 12) c) := h.below ((Below.refl _ _).alloc (Nat.le_refl _) _)
  have XV : Hid (Cs (w.alloc (.cells #[.pointer (some ⟨rb, 0, none⟩), .int .i64 n] 110)) (w.alloc (.cells #[.pointer (some ⟨rb, 0, none⟩), .int .i64 n] 110)) rb g n cp pb z r (blank 12) c) := XW.out.self (nx_blank 12)
  have LL : Hid (rb < w.heap.size ∧ pb < w.heap.size) := ⟨lt_of_block h.rd.rd, lt_of_block h.pk⟩
  have BX0 : Hid ((w.alloc (.cells #[.pointer (some ⟨rb, 0, none⟩), .int .i64 n] 110)).cell? ⟨w.heap.size, 0, none⟩ = some (.pointer (some ⟨rb, 0, none⟩))) := by show _ = _; simp [go_sem]
  have c0 : (w.alloc (.cells #[.pointer (some ⟨rb, 0, none⟩), .int .i64 n] 110)).cell? ⟨pb, 0, none⟩ = some (.int .i64 12) := XW.out.cell 0 _ rfl
  obtain ⟨R, hR⟩ : ∃ R, R = errOut (rEnd n r, blank 12, c) := ⟨_, rfl⟩
  rw [← hR]
  have HR : Hid (R = errOut (rEnd n r, blank 12, c)) := hR
  clear h hR
  go_enter Tryz.func76, Tryz.ntmps76
  obtain ⟨r1, hr1⟩ : ∃ y, y = rEnd n r := ⟨_, rfl⟩
  have H1 : Hid (r1 = rEnd n r) := hr1
  rw [← hr1] at HR
  clear hr1
  have bx := BX0.out
  go_wp2_with fail
  go_must (go_at_call 104)
  clear bx
  refine (end_any XV.out.rd).mono ?_
  rw [← H1.out]
  rintro e v1 ⟨rfl, hr, hg⟩
  have X1 : Hid (Cs (w.alloc (.cells #[.pointer (some ⟨rb, 0, none⟩), .int .i64 n] 110)) v1 rb g n cp pb z r1 (blank 12) c) := XV.out.read hr hg
  have BX1 : Hid (v1.cell? ⟨w.heap.size, 0, none⟩ = some (.pointer (some ⟨rb, 0, none⟩))) := hg.cell BX0.out (by have := LL.out; simp; omega)
  clear hr hg
  have bx := BX1.out
  go_wp2_with fail
  go_must (go_at_call 105)
  clear bx
  have T := err_out X1.out (blank 12) (Alike.refl _)
  have EE : R = if (r1).q ≠ 0 then .error ((r1).p, (r1).q) else .ok (r1, blank 12, c) := HR.out
  rw [← EE] at T
  refine T.mono ?_
  rintro e w6 hO
  obtain ⟨v, rfl⟩ := hO.ret
  have HO : Hid (OutIs (w.alloc (.cells #[.pointer (some ⟨rb, 0, none⟩), .int .i64 n] 110)) w6 (.returned v) rb g n cp pb z R) := hO
  clear hO T EE
  go_wp2
  go_ret
  exact OutIs.lower XW.out HO.out

set_option maxRecDepth 100000 in
set_option maxHeartbeats 2000000 in
theorem into_13 {w0 w : World} {rb g n cp pb : Nat} {z : Nat → Int} {r : Rs} {c : Cn} (fl : Int) (h : Cs w0 w rb g n cp pb z r (blank 13) c) :
    Calls Tryz.prog 76 #[.agg #[.pointer (some ⟨rb, 0, none⟩), .int .i64 n], .pointer (some ⟨pb, 0, none⟩), .int .i64 fl] w fun e w' => OutIs w0 w' e rb g n cp pb z (errOut (rEnd n r, blank 13, c)) := by
  have XW : Hid (Cs w0 (w.alloc (.cells #[.pointer (some ⟨rb, 0, none⟩), .int .i64 n] 110)) rb g n cp pb z r (blank 13) c) := h.below ((Below.refl _ _).alloc (Nat.le_refl _) _)
  have XV : Hid (Cs (w.alloc (.cells #[.pointer (some ⟨rb, 0, none⟩), .int .i64 n] 110)) (w.alloc (.cells #[.pointer (some ⟨rb, 0, none⟩), .int .i64 n] 110)) rb g n cp pb z r (blank 13) c) := XW.out.self (nx_blank 13)
  have LL : Hid (rb < w.heap.size ∧ pb < w.heap.size) := ⟨lt_of_block h.rd.rd, lt_of_block h.pk⟩
  have BX0 : Hid ((w.alloc (.cells #[.pointer (some ⟨rb, 0, none⟩), .int .i64 n] 110)).cell? ⟨w.heap.size, 0, none⟩ = some (.pointer (some ⟨rb, 0, none⟩))) := by show _ = _; simp [go_sem]
  have c0 : (w.alloc (.cells #[.pointer (some ⟨rb, 0, none⟩), .int .i64 n] 110)).cell? ⟨pb, 0, none⟩ = some (.int .i64 13) := XW.out.cell 0 _ rfl
  obtain ⟨R, hR⟩ : ∃ R, R = errOut (rEnd n r, blank 13, c) := ⟨_, rfl⟩
  rw [← hR]
  have HR : Hid (R = errOut (rEnd n r, blank 13, c)) := hR
  clear h hR
  go_enter Tryz.func76, Tryz.ntmps76
  obtain ⟨r1, hr1⟩ : ∃ y, y = rEnd n r := ⟨_, rfl⟩
  have H1 : Hid (r1 = rEnd n r) := hr1
  rw [← hr1] at HR
  clear hr1
  have bx := BX0.out
  go_wp2_with fail
  go_must (go_at_call 104)
  clear bx
  refine (end_any XV.out.rd).mono ?_
  rw [← H1.out]
  rintro e v1 ⟨rfl, hr, hg⟩
  have X1 : Hid (Cs (w.alloc (.cells #[.pointer (some ⟨rb, 0, none⟩), .int .i64 n] 110)) v1 rb g n cp pb z r1 (blank 13) c) := XV.out.read hr hg
  have BX1 : Hid (v1.cell? ⟨w.heap.size, 0, none⟩ = some (.pointer (some ⟨rb, 0, none⟩))) := hg.cell BX0.out (by have := LL.out; simp; omega)
  clear hr hg
  have bx := BX1.out
  go_wp2_with fail
  go_must (go_at_call 105)
  clear bx
  have T := err_out X1.out (blank 13) (Alike.refl _)
  have EE : R = if (r1).q ≠ 0 then .error ((r1).p, (r1).q) else .ok (r1, blank 13, c) := HR.out
  rw [← EE] at T
  refine T.mono ?_
  rintro e w6 hO
  obtain ⟨v, rfl⟩ := hO.ret
  have HO : Hid (OutIs (w.alloc (.cells #[.pointer (some ⟨rb, 0, none⟩), .int .i64 n] 110)) w6 (.returned v) rb g n cp pb z R) := hO
  clear hO T EE
  go_wp2
  go_ret
  exact OutIs.lower XW.out HO.out

set_option maxRecDepth 100000 in
set_option maxHeartbeats 2000000 in
theorem into_14 {w0 w : World} {rb g n cp pb : Nat} {z : Nat → Int} {r : Rs} {c : Cn} (fl : Int) (h : Cs w0 w rb g n cp pb z r (blank 14) c) :
    Calls Tryz.prog 76 #[.agg #[.pointer (some ⟨rb, 0, none⟩), .int .i64 n], .pointer (some ⟨pb, 0, none⟩), .int .i64 fl] w fun e w' => OutIs w0 w' e rb g n cp pb z (errOut (rEnd n r, blank 14, c)) := by
  have XW : Hid (Cs w0 (w.alloc (.cells #[.pointer (some ⟨rb, 0, none⟩), .int .i64 n] 110)) rb g n cp pb z r (blank 14) c) := h.below ((Below.refl _ _).alloc (Nat.le_refl _) _)
  have XV : Hid (Cs (w.alloc (.cells #[.pointer (some ⟨rb, 0, none⟩), .int .i64 n] 110)) (w.alloc (.cells #[.pointer (some ⟨rb, 0, none⟩), .int .i64 n] 110)) rb g n cp pb z r (blank 14) c) := XW.out.self (nx_blank 14)
  have LL : Hid (rb < w.heap.size ∧ pb < w.heap.size) := ⟨lt_of_block h.rd.rd, lt_of_block h.pk⟩
  have BX0 : Hid ((w.alloc (.cells #[.pointer (some ⟨rb, 0, none⟩), .int .i64 n] 110)).cell? ⟨w.heap.size, 0, none⟩ = some (.pointer (some ⟨rb, 0, none⟩))) := by show _ = _; simp [go_sem]
  have c0 : (w.alloc (.cells #[.pointer (some ⟨rb, 0, none⟩), .int .i64 n] 110)).cell? ⟨pb, 0, none⟩ = some (.int .i64 14) := XW.out.cell 0 _ rfl
  obtain ⟨R, hR⟩ : ∃ R, R = errOut (rEnd n r, blank 14, c) := ⟨_, rfl⟩
  rw [← hR]
  have HR : Hid (R = errOut (rEnd n r, blank 14, c)) := hR
  clear h hR
  go_enter Tryz.func76, Tryz.ntmps76
  obtain ⟨r1, hr1⟩ : ∃ y, y = rEnd n r := ⟨_, rfl⟩
  have H1 : Hid (r1 = rEnd n r) := hr1
  rw [← hr1] at HR
  clear hr1
  have bx := BX0.out
  go_wp2_with fail
  go_must (go_at_call 104)
  clear bx
  refine (end_any XV.out.rd).mono ?_
  rw [← H1.out]
  rintro e v1 ⟨rfl, hr, hg⟩
  have X1 : Hid (Cs (w.alloc (.cells #[.pointer (some ⟨rb, 0, none⟩), .int .i64 n] 110)) v1 rb g n cp pb z r1 (blank 14) c) := XV.out.read hr hg
  have BX1 : Hid (v1.cell? ⟨w.heap.size, 0, none⟩ = some (.pointer (some ⟨rb, 0, none⟩))) := hg.cell BX0.out (by have := LL.out; simp; omega)
  clear hr hg
  have bx := BX1.out
  go_wp2_with fail
  go_must (go_at_call 105)
  clear bx
  have T := err_out X1.out (blank 14) (Alike.refl _)
  have EE : R = if (r1).q ≠ 0 then .error ((r1).p, (r1).q) else .ok (r1, blank 14, c) := HR.out
  rw [← EE] at T
  refine T.mono ?_
  rintro e w6 hO
  obtain ⟨v, rfl⟩ := hO.ret
  have HO : Hid (OutIs (w.alloc (.cells #[.pointer (some ⟨rb, 0, none⟩), .int .i64 n] 110)) w6 (.returned v) rb g n cp pb z R) := hO
  clear hO T EE
  go_wp2
  go_ret
  exact OutIs.lower XW.out HO.out

/-- What comes of reading all fields of a packet of a kind. -/
def intoP (z : Nat → Int) (n : Nat) (r : Rs) (k : Int) (c : Cn) (fl : Int) : Except (Int × Int) (Rs × Pk × Cn) :=
  if k = 1 then connectP z n r (blank k) c else if k = 2 then connackP z n r (blank k) c else if k = 3 then errOut (publishP z n r (blank k) c fl)
  else if k = 8 then errOut (subP z n r (blank k) c) else if k = 9 then errOut (subackP z n r (blank k) c) else if k = 10 then errOut (unsP z n r (blank k) c)
  else if k = 12 ∨ k = 13 ∨ k = 14 then errOut (rEnd n r, blank k, c) else errOut (idP z n r (blank k) c)
theorem into_any {w0 w : World} {rb g n cp pb : Nat} {z : Nat → Int} {r : Rs} {c : Cn} (fl k : Int) (hk : 1 ≤ k ∧ k ≤ 14) (h : Cs w0 w rb g n cp pb z r (blank k) c) :
    Calls Tryz.prog 76 #[.agg #[.pointer (some ⟨rb, 0, none⟩), .int .i64 n], .pointer (some ⟨pb, 0, none⟩), .int .i64 fl] w fun e w' => OutIs w0 w' e rb g n cp pb z (intoP z n r k c fl) := by
  have hs : k = 1 ∨ k = 2 ∨ k = 3 ∨ k = 4 ∨ k = 5 ∨ k = 6 ∨ k = 7 ∨ k = 8 ∨ k = 9 ∨ k = 10 ∨ k = 11 ∨ k = 12 ∨ k = 13 ∨ k = 14 := by omega
  rcases hs with rfl | rfl | rfl | rfl | rfl | rfl | rfl | rfl | rfl | rfl | rfl | rfl | rfl | rfl
  · exact into_connect fl h
  · exact into_connack fl h
  · exact into_publish fl h
  · exact into_4 fl h
  · exact into_5 fl h
  · exact into_6 fl h
  · exact into_7 fl h
  · exact into_subscribe fl h
  · exact into_suback fl h
  · exact into_unsubscribe fl h
  · exact into_11 fl h
  · exact into_12 fl h
  · exact into_13 fl h
  · exact into_14 fl h
end Go.Proofs.YtibihbclijpkjaaGreatDoor
namespace Go.Proofs.YtibihbclijpkjaaGreatDoor.Pkt
open Go Go.RowKit Go.Sort
set_option linter.unusedSimpArgs false
set_option linter.unusedVariables false

/-- A count of parts in memory. -/
def Cb (w : World) (g : Nat) (x : Int) : Prop := w.heap[g]? = some (.cells #[.int .i64 x] 91)
/-- Nothing has changed but the count. -/
structure Cg (g : Nat) (x : Int) (w w' : World) : Prop where
  os : w'.os = w.os
  tape : w'.tape = w.tape
  output : w'.output = w.output
  size : w.heap.size ≤ w'.heap.size
  keep : ∀ k, k < w.heap.size → k ≠ g → w'.heap[k]? = w.heap[k]?
  blk : Cb w' g x
theorem Cg.trans {g : Nat} {x y : Int} {w w1 w2 : World} (h : Cg g x w w1) (h2 : Cg g y w1 w2) : Cg g y w w2 :=
  ⟨h2.os.trans h.os, h2.tape.trans h.tape, h2.output.trans h.output, Nat.le_trans h.size h2.size, fun k hk hn => (h2.keep k (Nat.lt_of_lt_of_le hk h.size) hn).trans (h.keep k hk hn), h2.blk⟩
theorem Cg.refl {g : Nat} {x : Int} {w : World} (h : Cb w g x) : Cg g x w w := ⟨rfl, rfl, rfl, Nat.le_refl _, fun _ _ _ => rfl, h⟩
theorem Cg.alloc {g : Nat} {x : Int} {w w' : World} (h : Cg g x w w') (o : Obj) : Cg g x w (w'.alloc o) :=
  ⟨h.os, h.tape, h.output, Nat.le_trans h.size (by show w'.heap.size ≤ (w'.heap.push o).size; simp), fun k hk hn => (heap_alloc_old w' o (Nat.lt_of_lt_of_le hk h.size)).trans (h.keep k hk hn), by
    have hg : g < w'.heap.size := by
      rcases Nat.lt_or_ge g w'.heap.size with h1 | h1
      · exact h1
      · have := h.blk; unfold Cb at this; rw [Array.getElem?_eq_none h1] at this; cases this
    exact (heap_alloc_old w' o hg).trans h.blk⟩
theorem Cg.cell {g : Nat} {x : Int} {w w' : World} (h : Cg g x w w') {a : Addr} {v : Value} (ha : w.cell? a = some v) (hn : a.block ≠ g) : w'.cell? a = some v := by
  have hlt := World.block_lt_of_cell? _ _ ha
  unfold World.cell? at ha ⊢
  rw [h.keep a.block hlt hn]
  exact ha
theorem Cb.cell {w : World} {g : Nat} {x : Int} (h : Cb w g x) : w.cell? ⟨g, 0, none⟩ = some (.int .i64 x) := by
  unfold World.cell?
  have : w.heap[g]? = some (.cells #[.int .i64 x] 91) := h
  simp [this]
theorem Cb.frozen {w : World} {g : Nat} {x : Int} (h : Cb w g x) : w.frozen? ⟨g, 0, none⟩ = false := by
  have : w.heap[g]? = some (.cells #[.int .i64 x] 91) := h
  simp [World.frozen?, this]
theorem cg_set {w : World} {g : Nat} {x : Int} (h : Cb w g x) (y : Int) : Cg g y w (w.setCell ⟨g, 0, none⟩ (.int .i64 y)) := by
  refine ⟨rfl, rfl, rfl, ?_, fun k hk hn => heap_setCell_other w _ k _ hn, ?_⟩
  · show w.heap.size ≤ (w.heap.modify g _).size
    simp
  · have := heap_setCell_same w g 0 #[.int .i64 x] 91 (.int .i64 y) h
    exact this

/-- What an addition leaves. -/
def less (x n : Int) : Int := if 0 ≤ x then x - n else x
set_option maxHeartbeats 400000 in
theorem add_any (w : World) (g : Nat) (x n : Int) (h : Cb w g x) (h0 : 0 ≤ n) (h1 : n ≤ 9223372036854775807) (h2 : x ≤ 1000000000) (h3 : -9223372036854775807 ≤ x) : Calls Tryz.prog 56 #[.pointer (some ⟨g, 0, none⟩), .int .i64 n] w fun e w' => e = .returned (.bool (decide (0 ≤ less x n))) ∧ Cg g (less x n) w w' := by
  have hc := h.cell
  have hf := h.frozen
  have HB : Hid (Cb w g x) := h
  clear h
  by_cases hx : 0 ≤ x
  · have hw : wrap64 (x - n) = x - n := by unfold wrap64; omega
    have hs := fun y => Cb.cell (cg_set HB.out y).blk
    rw [show less x n = x - n by simp [less, hx]]
    have HW : Hid (Cg g (x - n) w (w.setCell ⟨g, 0, none⟩ (.int .i64 (x - n)))) := cg_set HB.out _
    have HD : Hid (decide (n ≤ x) = decide (0 ≤ x - n)) := decide_eq_decide.2 (by omega)
    go_enter Tryz.func56, Tryz.ntmps56
    go_wp2
    go_ret
    exact ⟨by rw [← HD.out]; rfl, HW.out⟩
  · rw [show less x n = x by simp [less, hx]]
    have HD : Hid (decide (0 ≤ x) = false) := decide_eq_false hx
    go_enter Tryz.func56, Tryz.ntmps56
    go_wp2
    go_ret
    exact ⟨by rw [HD.out]; rfl, Cg.refl HB.out⟩
/-- What is left behind so many parts. -/
def St (x : Int) (t : Nat) (y : Int) : Prop := (0 ≤ y → y + t = x) ∧ y ≤ 1000000000 ∧ -9223372036854775807 ≤ y
theorem st_less {x : Int} {n : Nat} (h1 : n ≤ 9223372036854775807) (h2 : x ≤ 1000000000) (h3 : -9223372036854775807 ≤ x) : St x n (less x n) := by
  unfold St less
  by_cases h : 0 ≤ x
  · rw [if_pos h]; refine ⟨fun _ => by omega, by omega, by omega⟩
  · rw [if_neg h]; refine ⟨fun h' => absurd h' h, by omega, by omega⟩
theorem St.trans {x y z : Int} {t u : Nat} (h : St x t y) (h2 : St y u z) : St x (t + u) z := by
  refine ⟨fun hz => ?_, h2.2⟩
  have a := h2.1 hz
  have b := h.1 (by omega)
  omega
theorem ok_any (w : World) (g : Nat) (x : Int) (h : Cb w g x) : Calls Tryz.prog 28 #[.pointer (some ⟨g, 0, none⟩)] w fun e w' => e = .returned (.bool (decide (0 ≤ x))) ∧ w' = w := by
  have hc := h.cell
  clear h
  go_enter Tryz.func28, Tryz.ntmps28
  go_wp2
  go_ret
  exact ⟨rfl, rfl⟩
theorem addN_any (w : World) (g : Nat) (x : Int) (n : Nat) (h : Cb w g x) (h1 : n ≤ 9223372036854775807) (h2 : x ≤ 1000000000) (h3 : -9223372036854775807 ≤ x) : Calls Tryz.prog 56 #[.pointer (some ⟨g, 0, none⟩), .int .i64 (n : Int)] w fun e w' => ∃ y b, e = .returned (.bool b) ∧ Cg g y w w' ∧ St x n y := by
  refine (add_any w g x n h (by omega) (by omega) h2 h3).mono ?_
  rintro e w' ⟨rfl, hc⟩
  exact ⟨_, _, rfl, hc, st_less h1 h2 h3⟩

set_option maxHeartbeats 400000 in
theorem text_any (w : World) (g : Nat) (x : Int) (s : ByteArray) (h : Cb w g x) (h1 : s.size ≤ 9223372036854775807) (h2 : x ≤ 1000000000) (h3 : -9223372036854775807 ≤ x) : Calls Tryz.prog 52 #[.pointer (some ⟨g, 0, none⟩), .string s] w fun e w' => ∃ y, e = .returned (.tuple #[]) ∧ Cg g y w w' ∧ St x (1 + s.size) y := by
  have HB : Hid (Cb w g x) := h
  clear h
  go_enter Tryz.func52, Tryz.ntmps52
  go_wp2_with fail
  go_must (go_at_call 56)
  refine (addN_any w g x 1 HB.out (by decide) h2 h3).mono ?_
  rintro e w1 ⟨y, b, rfl, hc1, st1⟩
  have C1 : Hid (Cg g y w w1) := hc1
  have S1 : Hid (St x 1 y) := st1
  clear hc1 st1
  go_wp2_with fail
  go_must (go_at_call 56)
  refine (addN_any w1 g y s.size C1.out.blk h1 S1.out.2.1 S1.out.2.2).mono ?_
  rintro e w2 ⟨z, b2, rfl, hc2, st2⟩
  have C2 : Hid (Cg g z w w2) := C1.out.trans hc2
  have S2 : Hid (St x (1 + s.size) z) := S1.out.trans st2
  clear hc2 st2
  go_wp2
  go_end0
  exact ⟨z, rfl, C2.out, S2.out⟩
set_option maxHeartbeats 400000 in
theorem bytes_any (w : World) (g : Nat) (x : Int) (s : Sl) (h : Cb w g x) (h1 : s.n ≤ 9223372036854775807) (h2 : x ≤ 1000000000) (h3 : -9223372036854775807 ≤ x) : Calls Tryz.prog 53 #[.pointer (some ⟨g, 0, none⟩), .slice s.a s.n s.c] w fun e w' => ∃ y, e = .returned (.tuple #[]) ∧ Cg g y w w' ∧ St x (1 + s.n) y := by
  have HB : Hid (Cb w g x) := h
  clear h
  go_enter Tryz.func53, Tryz.ntmps53
  go_wp2_with fail
  go_must (go_at_call 56)
  refine (addN_any w g x 1 HB.out (by decide) h2 h3).mono ?_
  rintro e w1 ⟨y, b, rfl, hc1, st1⟩
  have C1 : Hid (Cg g y w w1) := hc1
  have S1 : Hid (St x 1 y) := st1
  clear hc1 st1
  go_wp2_with fail
  go_must (go_at_call 56)
  refine (addN_any w1 g y s.n C1.out.blk h1 S1.out.2.1 S1.out.2.2).mono ?_
  rintro e w2 ⟨z, b2, rfl, hc2, st2⟩
  have C2 : Hid (Cg g z w w2) := C1.out.trans hc2
  have S2 : Hid (St x (1 + s.n) z) := S1.out.trans st2
  clear hc2 st2
  go_wp2
  go_end0
  exact ⟨z, rfl, C2.out, S2.out⟩
set_option maxHeartbeats 400000 in
theorem message_any (w : World) (g : Nat) (x : Int) (t : ByteArray) (s : Sl) (q : Int) (r : Bool) (h : Cb w g x) (h0 : t.size ≤ 9223372036854775807) (h1 : s.n ≤ 9223372036854775807) (h2 : x ≤ 1000000000) (h3 : -9223372036854775807 ≤ x) : Calls Tryz.prog 54 #[.pointer (some ⟨g, 0, none⟩), .agg #[.string t, .slice s.a s.n s.c, .int .i64 q, .bool r]] w fun e w' => ∃ y, e = .returned (.tuple #[]) ∧ Cg g y w w' ∧ St x (1 + t.size + (1 + s.n)) y := by
  have C0 : Hid (Cg g x w (w.alloc (.cells #[.string t, .slice s.a s.n s.c, .int .i64 q, .bool r] 24))) := (Cg.refl h).alloc _
  have hn : Hid (g ≠ w.heap.size) := by
    intro e
    have : w.heap[g]? = some (.cells #[.int .i64 x] 91) := h
    rw [e, Array.getElem?_eq_none (Nat.le_refl _)] at this
    cases this
  clear h
  go_enter Tryz.func54, Tryz.ntmps54
  go_wp2_with fail
  go_must (go_at_call 52)
  refine (text_any _ g x t C0.out.blk h0 h2 h3).mono ?_
  rintro e w1 ⟨y, rfl, hc1, st1⟩
  have q1 := hc1.cell (box_cell w _ _ 1 _ rfl) (fun e => hn.out e.symm)
  have C1 : Hid (Cg g y w w1) := C0.out.trans hc1
  have S1 : Hid (St x (1 + t.size) y) := st1
  clear hc1 st1
  go_wp2_with fail
  go_must (go_at_call 53)
  refine (bytes_any w1 g y s C1.out.blk h1 S1.out.2.1 S1.out.2.2).mono ?_
  rintro e w2 ⟨z, rfl, hc2, st2⟩
  have C2 : Hid (Cg g z w w2) := C1.out.trans hc2
  have S2 : Hid (St x (1 + t.size + (1 + s.n)) z) := S1.out.trans st2
  clear hc2 st2
  go_wp2
  go_end0
  exact ⟨z, rfl, C2.out, S2.out⟩
end Go.Proofs.YtibihbclijpkjaaGreatDoor.Pkt
