import Derived.Test.YtenaliaefbkbcaaGreatMr
import Derived.Deep.Cut
import Derived.Deep.Light
import Derived.Test.YtenaliaefbkbcaaGreatRk
import Derived.DeepKeys4
namespace Go.Proofs.YtenaliaefbkbcaaGreat.Li
open Go Go.RowKit
set_option linter.unusedSimpArgs false
set_option linter.unusedVariables false
/-! ### A count of parts -/
def cAdd (L n : Int) : Int := if 0 ≤ L then L - n else L
def IsB (e : Ending) : Prop := ∃ b, e = .returned (.bool b)
/-- A count in memory. -/
def Ct (w : World) (c : Nat) (L : Int) : Prop := w.heap[c]? = some (.cells #[.int .i64 L] 95 (0, 0))
theorem Ct.cell {w : World} {c : Nat} {L : Int} (h : Ct w c L) : w.cell? ⟨c, 0, none⟩ = some (.int .i64 L) := box_cells h 0 _ rfl
theorem Ct.free {w : World} {c : Nat} {L : Int} (h : Ct w c L) : w.frozen? ⟨c, 0, none⟩ = false := box_frozen h 0
theorem Ct.set {w : World} {c : Nat} {L : Int} (h : Ct w c L) (L' : Int) : Ct (w.setCell ⟨c, 0, none⟩ (.int .i64 L')) c L' := by
  have := heap_set (k := 0) h (.int .i64 L')
  simpa [Ct] using this
theorem cAdd_le {L n : Int} (hn : 0 ≤ n) : cAdd L n ≤ L := by
  unfold cAdd
  split <;> omega
set_option maxHeartbeats 400000 in
theorem add_any {w : World} {c : Nat} {L : Int} (h : Ct w c L) (n : Int) (hL : L ≤ 2 ^ 60) (hn : 0 ≤ n ∧ n ≤ 2 ^ 63 - 1) :
    Calls Tryz.prog 48 #[.pointer (some ⟨c, 0, none⟩), .int .i64 n] w fun e w' => IsB e ∧ Ct w' c (cAdd L n) ∧ Ch (fun k => k = c) w w' := by
  have c0 := h.cell
  have f0 := h.free
  by_cases hp : 0 ≤ L
  · have hw : IntKind.i64.wrap (L - n) = L - n := by rw [IntKind.wrap_i64]; omega
    have c1 := (h.set (L - n)).cell
    have HZ : Hid (Ct (w.setCell ⟨c, 0, none⟩ (.int .i64 (L - n))) c (cAdd L n) ∧ Ch (fun k => k = c) w (w.setCell ⟨c, 0, none⟩ (.int .i64 (L - n)))) := ⟨by rw [cAdd, if_pos hp]; exact h.set _, ch_set _ _ _⟩
    clear h hn hL
    go_enter Tryz.func48, Tryz.ntmps48
    go_wp2
    go_ret
    exact ⟨⟨_, rfl⟩, HZ.out⟩
  · have HZ : Hid (Ct w c (cAdd L n) ∧ Ch (fun k => k = c) w w) := ⟨by rw [cAdd, if_neg hp]; exact h, Ch.refl _ _⟩
    have hp' : ¬ L ≥ 0 := hp
    clear h hn hL
    go_enter Tryz.func48, Tryz.ntmps48
    go_wp2
    go_ret
    exact ⟨⟨_, rfl⟩, HZ.out⟩
set_option maxHeartbeats 400000 in
theorem text_any {w : World} {c : Nat} {L : Int} (h : Ct w c L) (s : ByteArray) (hL : L ≤ 2 ^ 60) (hs : s.size ≤ maxLen) :
    Calls Tryz.prog 25 #[.pointer (some ⟨c, 0, none⟩), .string s] w fun e w' => e = .returned (.tuple #[]) ∧ Ct w' c (cAdd (cAdd L 1) s.size) ∧ Ch (fun k => k = c) w w' := by
  have hs' : (s.size : Int) ≤ 2 ^ 63 - 1 := by unfold maxLen at hs; omega
  have hb : cAdd L 1 ≤ L := cAdd_le (by omega)
  have HA := hidi (add_any h 1 (by omega) (by omega))
  have HB : Hid (∀ w', Ct w' c (cAdd L 1) → Calls Tryz.prog 48 #[.pointer (some ⟨c, 0, none⟩), .int .i64 s.size] w' fun e w'' => IsB e ∧ Ct w'' c (cAdd (cAdd L 1) s.size) ∧ Ch (fun k => k = c) w' w'') := fun w' h' => add_any h' _ (by omega) (by omega)
  clear h hL hs hs' hb
  go_enter Tryz.func25, Tryz.ntmps25
  go_wp2_with fail
  go_must (go_at_call 48)
  refine (HA.out).mono ?_
  rintro r w1 ⟨⟨b, rfl⟩, hk, hc⟩
  have J := hidi (HB.out _ hk)
  have C1 := hidi hc
  clear hk hc HA HB
  go_wp2_with fail
  go_must (go_at_call 48)
  refine (J.out).mono ?_
  rintro r w2 ⟨⟨b2, rfl⟩, hk, hc⟩
  have Z : Hid (Ct w2 c (cAdd (cAdd L 1) s.size) ∧ Ch (fun k => k = c) w w2) := ⟨hk, C1.out.trans hc (fun _ _ q => q)⟩
  clear hk hc J C1
  go_wp2_with fail
  exact bodyPost_end (results_none rfl _ _ _) rfl ⟨rfl, Z.out⟩
set_option maxHeartbeats 400000 in
theorem bytes_any {w : World} {c : Nat} {L : Int} (h : Ct w c L) (a : Option Addr) (n cp : Nat) (hL : L ≤ 2 ^ 60) (hs : n ≤ maxLen) :
    Calls Tryz.prog 49 #[.pointer (some ⟨c, 0, none⟩), .slice a n cp] w fun e w' => e = .returned (.tuple #[]) ∧ Ct w' c (cAdd (cAdd L 1) n) ∧ Ch (fun k => k = c) w w' := by
  have hs' : (n : Int) ≤ 2 ^ 63 - 1 := by unfold maxLen at hs; omega
  have hb : cAdd L 1 ≤ L := cAdd_le (by omega)
  have HA := hidi (add_any h 1 (by omega) (by omega))
  have HB : Hid (∀ w', Ct w' c (cAdd L 1) → Calls Tryz.prog 48 #[.pointer (some ⟨c, 0, none⟩), .int .i64 n] w' fun e w'' => IsB e ∧ Ct w'' c (cAdd (cAdd L 1) n) ∧ Ch (fun k => k = c) w' w'') := fun w' h' => add_any h' _ (by omega) (by omega)
  clear h hL hs hs' hb
  go_enter Tryz.func49, Tryz.ntmps49
  go_wp2_with fail
  go_must (go_at_call 48)
  refine (HA.out).mono ?_
  rintro r w1 ⟨⟨b, rfl⟩, hk, hc⟩
  have J := hidi (HB.out _ hk)
  have C1 := hidi hc
  clear hk hc HA HB
  go_wp2_with fail
  go_must (go_at_call 48)
  refine (J.out).mono ?_
  rintro r w2 ⟨⟨b2, rfl⟩, hk, hc⟩
  have Z : Hid (Ct w2 c (cAdd (cAdd L 1) n) ∧ Ch (fun k => k = c) w w2) := ⟨hk, C1.out.trans hc (fun _ _ q => q)⟩
  clear hk hc J C1
  go_wp2_with fail
  exact bodyPost_end (results_none rfl _ _ _) rfl ⟨rfl, Z.out⟩
def cMsg (L : Int) (s n : Nat) : Int := cAdd (cAdd (cAdd (cAdd L 1) s) 1) n
set_option maxHeartbeats 400000 in
theorem message_any {w : World} {c : Nat} {L : Int} (h : Ct w c L) (t : ByteArray) (a : Option Addr) (n cp : Nat) (q : Int) (r : Bool) (hL : L ≤ 2 ^ 60) (ht : t.size ≤ maxLen) (hs : n ≤ maxLen) :
    Calls Tryz.prog 26 #[.pointer (some ⟨c, 0, none⟩), .agg #[.string t, .slice a n cp, .int .i64 q, .bool r]] w fun e w' => e = .returned (.tuple #[]) ∧ Ct w' c (cMsg L t.size n) ∧ Ch (fun k => k = c) w w' := by
  obtain ⟨w1, hw1⟩ : ∃ w1, w1 = w.alloc (.cells #[.string t, .slice a n cp, .int .i64 q, .bool r] 30) := ⟨_, rfl⟩
  have a1 := heap_alloc_new w (.cells #[.string t, .slice a n cp, .int .i64 q, .bool r] 30)
  have b1 : Below w.heap.size w (w.alloc (.cells #[.string t, .slice a n cp, .int .i64 q, .bool r] 30)) := (Below.refl _ _).alloc (Nat.le_refl _) _
  rw [← hw1] at a1 b1
  have hcl : c < w.heap.size := (Array.getElem?_eq_some_iff.1 h).1
  have hc1 : Ct w1 c L := (b1.block c hcl).trans h
  have hb : cAdd (cAdd L 1) t.size ≤ L := Int.le_trans (cAdd_le (by omega)) (cAdd_le (by omega))
  have HA := hidi (text_any hc1 t hL ht)
  have HB := hidi (fun W (h' : Ct W c (cAdd (cAdd L 1) t.size)) => bytes_any h' a n cp (by omega) hs)
  have HX := hidi (And.intro a1 b1)
  have e0 := box_cells a1 0 _ rfl
  have e1 := box_cells a1 1 _ rfl
  have HCL := hidi hcl
  clear h hL ht hs a1 b1 hc1 hb hcl
  go_enter Tryz.func26, Tryz.ntmps26
  go_upto_region 1 with fail
  rw [← hw1]
  clear hw1
  go_wp2_with fail
  go_must (go_at_call 25)
  refine HA.out.mono ?_
  rintro e w2 ⟨rfl, hk, hc⟩
  have J := hidi (HB.out _ hk)
  have a2 : w2.heap[w.heap.size]? = some (.cells #[.string t, .slice a n cp, .int .i64 q, .bool r] 30 (0, 0)) := (hc.block _ (Array.getElem?_eq_some_iff.1 HX.out.1).1 (by have := HCL.out; omega)).trans HX.out.1
  clear e0 e1
  have e1 := box_cells a2 1 _ rfl
  have C1 := hidi hc
  clear hk hc HA HB a2
  go_wp2_with fail
  go_must (go_at_call 49)
  refine J.out.mono ?_
  rintro e w3 ⟨rfl, hk, hc⟩
  have Z := hidi (And.intro hk ((Below.ch (S := fun k => k = c) HX.out.2).trans (C1.out.trans hc (fun _ _ q => q)) (fun _ _ q => q)))
  clear hk hc J C1
  go_wp2_with fail
  exact bodyPost_end (results_none rfl _ _ _) rfl ⟨rfl, Z.out⟩
theorem cAdd_ok {L n : Int} (hn : 0 ≤ n) (h : 0 ≤ cAdd L n) : 0 ≤ L ∧ n ≤ L ∧ cAdd L n ≤ L := by
  refine ⟨?_, ?_, cAdd_le hn⟩ <;> (unfold cAdd at h; split at h <;> omega)
theorem cMsg_ok {L : Int} {s n : Nat} (h : 0 ≤ cMsg L s n) : (s : Int) ≤ L ∧ (n : Int) ≤ L := by
  unfold cMsg at h
  obtain ⟨a1, a2, a3⟩ := cAdd_ok (by omega) h
  obtain ⟨b1, b2, b3⟩ := cAdd_ok (by omega) a1
  obtain ⟨c1, c2, c3⟩ := cAdd_ok (by omega) b1
  obtain ⟨d1, d2, d3⟩ := cAdd_ok (by omega) c1
  omega
theorem cMsg_le (L : Int) (s n : Nat) : cMsg L s n ≤ L := Int.le_trans (cAdd_le (by omega)) (Int.le_trans (cAdd_le (by omega)) (Int.le_trans (cAdd_le (by omega)) (cAdd_le (by omega))))
theorem ok_any {w : World} {c : Nat} {L : Int} (h : Ct w c L) : Calls Tryz.prog 24 #[.pointer (some ⟨c, 0, none⟩)] w fun e w' => e = .returned (.bool (decide (0 ≤ L))) ∧ w' = w := by
  have c0 := h.cell
  clear h
  by_cases hp : 0 ≤ L
  · have hp' : L ≥ 0 := hp
    rw [decide_eq_true hp]
    go_enter Tryz.func24, Tryz.ntmps24
    go_wp2
    go_ret
    exact ⟨rfl, rfl⟩
  · have hp' : ¬ L ≥ 0 := hp
    rw [decide_eq_false hp]
    go_enter Tryz.func24, Tryz.ntmps24
    go_wp2
    go_ret
    exact ⟨rfl, rfl⟩
theorem many_any (n : Int) (w : World) : Calls Tryz.prog 23 #[.int .i64 n] w fun e w' => e = .returned (.pointer (some ⟨w.heap.size, 0, none⟩)) ∧ Ct w' w.heap.size n ∧ Below w.heap.size w w' := by
  have HZ : Hid (Ct (w.alloc (.cells #[.int .i64 n] 95)) w.heap.size n ∧ Below w.heap.size w (w.alloc (.cells #[.int .i64 n] 95))) := ⟨heap_alloc_new _ _, (Below.refl _ _).alloc (Nat.le_refl _) _⟩
  go_enter Tryz.func23, Tryz.ntmps23
  go_wp2
  go_ret
  exact ⟨rfl, HZ.out⟩
/-- A payload as it comes in. -/
def PR (w : World) (v : Value) (xs : List Int) : Prop :=
  (v = .slice none 0 0 ∧ xs = []) ∨ ∃ a n c, v = .slice (some a) n c ∧ xs.length = n ∧ n ≤ maxLen ∧ ∀ i, i < n → w.cell? (a.add i) = some (.int .u8 (xs.getD i 0))
theorem PR.sl {w : World} {v : Value} {xs : List Int} (h : PR w v xs) : ∃ a c, v = .slice a xs.length c ∧ xs.length ≤ maxLen := by
  rcases h with ⟨h, rfl⟩ | ⟨a, n, c, h, rfl, h3, -⟩
  · exact ⟨_, _, h, by unfold maxLen; simp⟩
  · exact ⟨_, _, h, h3⟩
theorem PR.keep {w w' : World} {v : Value} {xs : List Int} (h : PR w v xs) (hk : ∀ b, b < w.heap.size → w'.heap[b]? = w.heap[b]?) : PR w' v xs := by
  rcases h with h | ⟨a, n, c, h1, h2, h3, h4⟩
  · exact .inl h
  · exact .inr ⟨a, n, c, h1, h2, h3, fun i hi => (cell_heap (hk _ (World.block_lt_of_cell? _ _ (h4 i hi)))).trans (h4 i hi)⟩
/-! ### The law's script in memory -/
structure Ow where
  kd : Int
  sd : Bool
  a : ByteArray
  b : ByteArray
  n : Int
  st : Int
  t : ByteArray
  v : Value
  xs : List Int
  mq : Int
  r : Bool
def Ow.cs (o : Ow) : Array Value := #[.int .i64 o.kd, .bool o.sd, .string o.a, .string o.b, .int .i64 o.n, .int .i64 o.st, .string o.t, o.v, .int .i64 o.mq, .bool o.r]
structure Scs (w : World) (sa : Option Addr) (n cap : Nat) (ops : List Ow) : Prop where
  len : ops.length = n
  big : n ≤ maxLen
  cell : 0 < n → ∃ g o, sa = some ⟨g, o, none⟩ ∧ ∀ i (hi : i < ops.length) x, x < 10 → w.cell? ⟨g, o + i * 10 + x, none⟩ = ops[i].cs[x]?
  pay : ∀ o ∈ ops, PR w o.v o.xs
  txt : ∀ o ∈ ops, o.t.size ≤ maxLen ∧ o.a.size ≤ maxLen ∧ o.b.size ≤ maxLen
theorem Scs.keep {w w' : World} {sa : Option Addr} {n cap : Nat} {ops : List Ow} (h : Scs w sa n cap ops) (hk : ∀ b, b < w.heap.size → w'.heap[b]? = w.heap[b]?) : Scs w' sa n cap ops :=
  { h with
    cell := fun hn => by
      obtain ⟨g, o, e, hc⟩ := h.cell hn
      refine ⟨g, o, e, fun i hi x hx => ?_⟩
      have h1 := hc i hi x hx
      have hs : ∃ v, ops[i].cs[x]? = some v := by
        match x, hx with
        | 0, _ => exact ⟨_, rfl⟩
        | 1, _ => exact ⟨_, rfl⟩
        | 2, _ => exact ⟨_, rfl⟩
        | 3, _ => exact ⟨_, rfl⟩
        | 4, _ => exact ⟨_, rfl⟩
        | 5, _ => exact ⟨_, rfl⟩
        | 6, _ => exact ⟨_, rfl⟩
        | 7, _ => exact ⟨_, rfl⟩
        | 8, _ => exact ⟨_, rfl⟩
        | 9, _ => exact ⟨_, rfl⟩
      obtain ⟨v, hv⟩ := hs
      rw [hv] at h1 ⊢
      exact (cell_heap (hk g (World.block_lt_of_cell? _ ⟨g, o + i * 10 + x, none⟩ h1))).trans h1
    pay := fun o ho => (h.pay o ho).keep hk }
def FewS (ops : List Ow) : Prop := ops.length ≤ 200 ∧ ∀ o ∈ ops, o.a.size ≤ 100000 ∧ o.b.size ≤ 100000
structure Cw (W wx : World) (c : Nat) (M : Int) : Prop where
  ct : Ct wx c M
  le : M ≤ 100000
  ne : W.heap.size ≤ c
  bel : Below W.heap.size W wx
theorem Cw.ch {W wx wy : World} {c : Nat} {M N : Int} (h : Cw W wx c M) (ht : Ct wy c N) (hc : Ch (fun j => j = c) wx wy) (hn : N ≤ M) : Cw W wy c N :=
  ⟨ht, Int.le_trans hn h.le, h.ne, ⟨hc.os.trans h.bel.os, hc.tape.trans h.bel.tape, hc.output.trans h.bel.output, Nat.le_trans h.bel.size hc.size, fun j hj => (hc.block j (Nat.lt_of_lt_of_le hj h.bel.size) (by have := h.ne; omega)).trans (h.bel.block j hj)⟩⟩
set_option maxRecDepth 100000 in
set_option maxHeartbeats 8000000 in
theorem few_any {W : World} {sa : Option Addr} {n cap : Nat} {ops : List Ow} (h : Scs W sa n cap ops) : Calls Tryz.prog 6 #[.slice sa n cap] W fun e w' => ∃ x, e = .returned (.bool x) ∧ (x = true → FewS ops) ∧ Below W.heap.size W w' := by
  have H := hidi h
  have hmx : n ≤ 9223372036854775807 := by have := h.big; unfold maxLen at this; omega
  have HM := hidi (many_any 100000 W)
  obtain ⟨c, hc⟩ : ∃ c, c = W.heap.size := ⟨_, rfl⟩
  rw [← hc] at HM
  have HC := hidi hc
  clear h hc
  go_enter Tryz.func6, Tryz.ntmps6
  go_wp2_with (go_at_call 23; refine HM.out.mono ?_; clear HM; rintro e w2 ⟨rfl, hct, hb⟩; rw [HC.out] at hb; have C5 := hidi (show Cw W w2 c 100000 from ⟨hct, Int.le_refl _, by rw [HC.out]; exact Nat.le_refl _, hb⟩); clear hct hb)
  go_loopg [4] n (fun gk s4 wx => ∃ j : Nat, j + gk = n ∧ s4 = .int .i64 j ∧ Hid (∃ M : Int, Cw W wx c M ∧ (0 ≤ M → ∀ i (hi : i < ops.length), i < j → ops[i].a.size ≤ 100000 ∧ ops[i].b.size ≤ 100000)))
  case atStart => exact ⟨0, by omega, rfl, 100000, C5.out, fun _ i _ hi => by omega⟩
  case round =>
    obtain ⟨j, hj, rfl, HI⟩ := hrel
    clear C5
    obtain ⟨M, hM, hall⟩ := HI.out
    have HOK := hidi (ok_any hM.ct)
    obtain ⟨bm, hbm⟩ : ∃ bm, bm = decide (0 ≤ M) := ⟨_, rfl⟩
    rw [← hbm] at HOK
    have HX := hidi (And.intro hM (And.intro hall hbm))
    clear hM hall hbm
    by_cases hjn : j < n
    · have hlt : (j : Int) < (n : Int) := by omega
      have hge : (0 : Int) ≤ (j : Int) := by omega
      cases bm
      · go_wp2_with (first | (go_at_call 24; refine HOK.out.mono ?_; rintro e w' ⟨rfl, rfl⟩))
        go_ret
        exact ⟨_, rfl, nofun, HX.out.1.bel⟩
      · have hjf : j < ops.length := by rw [H.out.len]; exact hjn
        have hw1 : IntKind.i64.wrap ((j : Int) + 1) = (j : Int) + 1 := by rw [IntKind.wrap_i64]; omega
        have hscr := H.out.keep (fun b hb => HX.out.1.bel.block b hb)
        obtain ⟨g, o, hsa, hcell⟩ := hscr.cell (by omega)
        subst hsa
        have hpy := hscr.pay _ (List.getElem_mem hjf)
        have htx := hscr.txt _ (List.getElem_mem hjf)
        have hc := hcell j hjf
        obtain ⟨f, hf⟩ : ∃ f, f = ops[j] := ⟨_, rfl⟩
        have HF := hidi hf
        rw [← hf] at hpy htx hc
        obtain ⟨kd, sd, fa, fb, nn, st, t, v, xs, mq, r⟩ := f
        obtain ⟨pa, pc, hv, hln⟩ := hpy.sl
        simp only at hv
        subst hv
        obtain ⟨pn, hpn⟩ : ∃ pn, pn = xs.length := ⟨_, rfl⟩
        have k2 : wr.cell? ⟨g, o + j * 10 + 2, none⟩ = some (.string fa) := hc 2 (by omega)
        have hgW : g < W.heap.size := by
          obtain ⟨g', o', hs', hc'⟩ := H.out.cell (by omega)
          simp only [Option.some.injEq, Addr.mk.injEq, and_true] at hs'
          obtain ⟨rfl, rfl⟩ := hs'
          have := hc' j hjf 2 (by omega)
          rw [← hf] at this
          exact World.block_lt_of_cell? _ ⟨g, o + j * 10 + 2, none⟩ this
        have TX := hidi (fun (w2 : World) (N : Int) (hN : Ct w2 c N) (hl : N ≤ 2 ^ 60) => text_any hN fa hl htx.2.1)
        have TY := hidi (fun (w2 : World) (N : Int) (hN : Ct w2 c N) (hl : N ≤ 2 ^ 60) => text_any hN fb hl htx.2.2)
        have KC := hidi (show ∀ w2, Ch (fun j => j = c) wr w2 → w2.cell? ⟨g, o + j * 10 + 3, none⟩ = some (.string fb) ∧ w2.cell? ⟨g, o + j * 10 + 6, none⟩ = some (.string t) ∧ w2.cell? ⟨g, o + j * 10 + 7, none⟩ = some (.slice pa pn pc) ∧ w2.cell? ⟨g, o + j * 10 + 8, none⟩ = some (.int .i64 mq) ∧ w2.cell? ⟨g, o + j * 10 + 9, none⟩ = some (.bool r) from fun w2 hch => by
          have hg : w2.heap[g]? = wr.heap[g]? := hch.block g (Nat.lt_of_lt_of_le hgW HX.out.1.bel.size) (by have := HX.out.1.ne; omega)
          have hcc : ∀ x, w2.cell? ⟨g, x, none⟩ = wr.cell? ⟨g, x, none⟩ := fun x => cell_heap hg
          rw [hcc, hcc, hcc, hcc, hcc, hpn]
          exact ⟨hc 3 (by omega), hc 6 (by omega), hc 7 (by omega), hc 8 (by omega), hc 9 (by omega)⟩)
        have MS := hidi (fun (w2 : World) (N : Int) (hN : Ct w2 c N) (hl : N ≤ 2 ^ 60) => message_any hN t pa pn pc mq r hl htx.1 (by rw [hpn]; exact hln))
        have HPN := hidi hjf
        clear hc hpy htx hln hpn hf hcell hscr
        have hM60 : M ≤ 2 ^ 60 := by have := HX.out.1.le; omega
        have hM61 : cAdd (cAdd M 1) fa.size ≤ 2 ^ 60 := Int.le_trans (Int.le_trans (cAdd_le (by omega)) (cAdd_le (by omega))) hM60
        have hM62 : cAdd (cAdd (cAdd (cAdd M 1) fa.size) 1) fb.size ≤ 2 ^ 60 := Int.le_trans (Int.le_trans (cAdd_le (by omega)) (cAdd_le (by omega))) hM61
        have HMM := hidi (And.intro hM60 (And.intro hM61 hM62))
        clear hM60 hM61 hM62
        go_wp2_with (first | (go_at_call 24; refine HOK.out.mono ?_; rintro e w' ⟨rfl, he⟩; obtain rfl := he.symm; clear he) | (go_at_call 25; with_reducible refine (TX.out _ _ HX.out.1.ct HMM.out.1).mono ?_; rintro e w2 ⟨rfl, hk2, hch2⟩; obtain ⟨k3, k6, k7, k8, k9⟩ := KC.out w2 hch2; have C2 := hidi (And.intro (HX.out.1.ch hk2 hch2 (Int.le_trans (cAdd_le (by omega)) (cAdd_le (by omega)))) hch2); clear hk2 hch2 HOK k2) | (go_at_call 25; with_reducible refine (TY.out _ _ C2.out.1.ct HMM.out.2.1).mono ?_; rintro e w3 ⟨rfl, hk2, hch2⟩; clear k3 k6 k7 k8 k9; obtain ⟨k3, k6, k7, k8, k9⟩ := KC.out w3 (C2.out.2.then hch2); have C3 := hidi (C2.out.1.ch hk2 hch2 (Int.le_trans (cAdd_le (by omega)) (cAdd_le (by omega)))); clear hk2 hch2) | (go_at_call 26; refine (MS.out _ _ C3.out.ct HMM.out.2.2).mono ?_; rintro e w4 ⟨rfl, hk3, hch3⟩; have C4 := hidi (C3.out.ch hk3 hch3 (cMsg_le _ _ _)); clear hk3 hch3))
        go_roundg (n - (j + 1))
        case measure => omega
        case rel =>
          refine ⟨j + 1, by omega, by first | rfl | simp, _, C4.out, fun h0 i hi hij => ?_⟩
          have h00 := Int.le_trans h0 (cMsg_le _ _ _)
          obtain ⟨a1, a2, a3⟩ := cAdd_ok (by omega) h00
          obtain ⟨b1, b2, b3⟩ := cAdd_ok (by omega) a1
          obtain ⟨c1, c2, c3⟩ := cAdd_ok (by omega) b1
          obtain ⟨d1, d2, d3⟩ := cAdd_ok (by omega) c1
          have hle := HX.out.1.le
          by_cases e : i = j
          · subst e
            rw [← HF.out]
            simp only
            omega
          · exact HX.out.2.1 d1 i hi (by omega)
    · have hlt : ¬ (j : Int) < (n : Int) := by omega
      obtain rfl : j = n := by omega
      cases bm
      · go_wp2_with (first | (go_at_call 24; refine HOK.out.mono ?_; rintro e w' ⟨rfl, rfl⟩))
        go_ret
        exact ⟨_, rfl, nofun, HX.out.1.bel⟩
      · have h0 : 0 ≤ M := of_decide_eq_true HX.out.2.2.symm
        have HKK := hidi h0
        clear h0
        by_cases h150 : (j : Int) ≤ 200
        · go_wp2_with (first | (go_at_call 24; refine HOK.out.mono ?_; rintro e w' ⟨rfl, rfl⟩))
          go_ret
          refine ⟨_, rfl, fun _ => ⟨by rw [H.out.len]; omega, fun o ho => ?_⟩, HX.out.1.bel⟩
          obtain ⟨i, hi, rfl⟩ := List.getElem_of_mem ho
          exact HX.out.2.1 HKK.out i hi (by rw [H.out.len] at hi; exact hi)
        · go_wp2_with (first | (go_at_call 24; refine HOK.out.mono ?_; rintro e w' ⟨rfl, rfl⟩))
          go_ret
          exact ⟨_, rfl, fun q => by simp [h150] at q; omega, HX.out.1.bel⟩
end Go.Proofs.YtenaliaefbkbcaaGreat.Li
namespace Go.Proofs.YtenaliaefbkbcaaGreat.Li
open Go Go.RowKit Go.Maps
set_option linter.unusedSimpArgs false
set_option linter.unusedVariables false
/-! ### Maps by two texts -/
abbrev KP := ByteArray × ByteArray
def kc2 (k : KP) : Value := .agg #[.string k.1, .string k.2]
def okP (k : KP) : Prop := k.1.size ≤ maxLen ∧ k.2.size ≤ maxLen
def kp (k : KP) : Lit := .string (keyBytes [.string k.1.data.toList, .string k.2.data.toList])
theorem laidOut : laidOutB Tryz.prog = true := by kernel_rfl
theorem row38 : (38 : TypeId) < Tryz.prog.types.size := of_decide_eq_true (by kernel_rfl)
theorem wide38 : (match Tryz.prog.underlying 38 with | some (.array _ _) | some (.struct _) => true | _ => false) = true := by rw [Tryz.underlying38]
set_option maxRecDepth 100000 in
theorem law38 : Maps.Keyed Tryz.prog 38 := Maps.Keyed.of_law (deep_law_laid laidOut (m := 2) (by omega) row38 (by kernel_rfl) wide38)
theorem cells38 : Tryz.prog.cellsOf 38 = 2 := by kernel_rfl
theorem cells9 : Tryz.prog.cellsOf 9 = 1 := by kernel_rfl
theorem ktype38 : Tryz.prog.keyType 38 = true := by kernel_rfl
theorem keyOf_kp {k : KP} (h : okP k) : keyOf Tryz.prog 38 (kc2 k) = some (kp k) := by
  obtain ⟨d, hd⟩ : ∃ d, Tryz.prog.types.size = d + 1 := ⟨Tryz.prog.types.size - 1, by have h31 : 38 < Tryz.prog.types.size := row38; omega⟩
  have hf : (kc2 k).formed Tryz.prog 38 = true := by simp [kc2, Value.formed, Tryz.underlying38, cells38]
  have h1 : Tryz.prog.keyLits (d + 1 + 1) 38 [.string k.1, .string k.2] = some [.string k.1.data.toList, .string k.2.data.toList] := by
    simp [Program.keyLits, Tryz.underlying38, Tryz.underlying9, cells38, cells9, h.1, h.2, List.range_succ, List.mapM_cons]
  unfold keyOf
  rw [Tryz.underlying38]
  simp only [ktype38, hf, Bool.and_self, if_true]
  rw [hd]
  show (Tryz.prog.keyLits (d + 1 + 1) 38 [.string k.1, .string k.2]).map _ = _
  rw [h1]
  rfl
theorem kp_inj {a b : KP} (ha : okP a) (hb : okP b) (h : kp a = kp b) : a = b := by
  have h1 := keyOf_kp ha
  rw [h] at h1
  have := law38.inj h1 (keyOf_kp hb)
  simp [kc2] at this
  exact Prod.ext this.1 this.2
def setP (f : KP → Option Value) (k : KP) (v : Option Value) : KP → Option Value := fun j => if j = k then v else f j
def szP (f : KP → Option Value) (k : KP) (n : Nat) : Nat := if (f k).isSome then n else n + 1
def MP (w : World) (mv : Value) (n : Nat) (f : KP → Option Value) : Prop :=
  (mv = .map none ∧ n = 0 ∧ ∀ k, okP k → f k = none) ∨ ∃ mb D, mv = .map (some mb) ∧ w.ownsMap Tryz.prog 38 hv mb n D ∧ Maps.size D = n ∧ ∀ k, okP k → Maps.has D (kp k) = (f k).isSome ∧ ∀ v, f k = some v → ∀ z, D.atKey (kp k) z = .held v
theorem MP.keep {w w' : World} {mv : Value} {n : Nat} {f : KP → Option Value} (h : MP w mv n f) (hs : ∀ b, mv = .map (some b) → w'.heap[b]? = w.heap[b]?) : MP w' mv n f := by
  rcases h with h | ⟨mb, D, h1, ⟨es, clock, hb, F, hs', hD⟩, h3, h4⟩
  · exact .inl h
  · exact .inr ⟨mb, D, h1, ⟨es, clock, (hs mb h1).trans hb, F, hs', hD⟩, h3, h4⟩
theorem MP.block {w : World} {mv : Value} {n : Nat} {f : KP → Option Value} (h : MP w mv n f) {b : Nat} (hb : mv = .map (some b)) : ∃ es clock, w.heap[b]? = some (.map es clock) := by
  rcases h with ⟨h, _⟩ | ⟨mb, D, h1, ⟨es, clock, hm, _⟩, _⟩
  · rw [h] at hb; cases hb
  · rw [h1] at hb
    cases hb
    exact ⟨es, clock, hm⟩
theorem MP.lt {w : World} {mv : Value} {n : Nat} {f : KP → Option Value} (h : MP w mv n f) {b : Nat} (hb : mv = .map (some b)) : b < w.heap.size := by
  obtain ⟨es, c, h⟩ := h.block hb
  exact (Array.getElem?_eq_some_iff.1 h).1
theorem MP.mk {w : World} {mv : Value} {n : Nat} {f : KP → Option Value} (h : MP w mv n f) : mv = .map none ∨ ∃ mb, mv = .map (some mb) := by
  rcases h with ⟨h, _⟩ | ⟨mb, D, h1, _⟩
  · exact .inl h
  · exact .inr ⟨mb, h1⟩
theorem MP.made (w : World) : MP (w.alloc (.map #[] 0)) (.map (some w.heap.size)) 0 (fun _ => none) :=
  .inr ⟨w.heap.size, .map [], rfl, World.ownsMap_made w Tryz.prog 38 hv, rfl, fun k _ => ⟨rfl, fun v q => by cases q⟩⟩
theorem MP.nil (w : World) : MP w (.map none) 0 (fun _ => none) := .inl ⟨rfl, rfl, fun _ _ => rfl⟩
theorem MP.congr {w : World} {mv : Value} {n : Nat} {f g : KP → Option Value} (h : MP w mv n f) (hg : ∀ k, okP k → g k = f k) : MP w mv n g := by
  rcases h with ⟨h, h1, h2⟩ | ⟨mb, D, h1, h2, h3, h4⟩
  · exact .inl ⟨h, h1, fun k hk => (hg k hk).trans (h2 k hk)⟩
  · exact .inr ⟨mb, D, h1, h2, h3, fun k hk => by rw [hg k hk]; exact h4 k hk⟩
theorem MP.look {w : World} {mv : Value} {n : Nat} {f : KP → Option Value} (h : MP w mv n f) {t e : TypeId} (ht : Tryz.prog.underlying t = some (.map 38 e)) {z : Value} (hz : ∀ w, (zeroValue e).run Tryz.prog w = .ok z w) {k : KP} (hk : okP k) :
    (Instr.lookup t mv (kc2 k) false).run Tryz.prog w = .ok ((f k).getD z) w := by
  rcases h with ⟨rfl, h1, h2⟩ | ⟨mb, D, rfl, h2, h3, h4⟩
  · rw [h2 k hk]
    exact Maps.look_nil false law38 ht (hz w) (keyOf_kp hk)
  · obtain ⟨v, ps, hrun, hv'⟩ := h2.lookup law38 ht (hz w) (zd := .held z) (zp := []) rfl (keyOf_kp hk)
    rw [hrun]
    cases e : f k with
    | none =>
      rw [Maps.atKey_of_not_has (by rw [(h4 k hk).1, e]; rfl)] at hv'
      simp [hv] at hv'
      rw [hv'.1]
      rfl
    | some x =>
      rw [(h4 k hk).2 x e] at hv'
      simp [hv] at hv'
      rw [hv'.1]
      rfl
theorem MP.look2 {w : World} {mv : Value} {n : Nat} {f : KP → Option Value} (h : MP w mv n f) {t e : TypeId} (ht : Tryz.prog.underlying t = some (.map 38 e)) {z : Value} (hz : ∀ w, (zeroValue e).run Tryz.prog w = .ok z w) {k : KP} (hk : okP k) :
    (Instr.lookup t mv (kc2 k) true).run Tryz.prog w = .ok (.tuple #[(f k).getD z, .bool (f k).isSome]) w := by
  rcases h with ⟨rfl, h1, h2⟩ | ⟨mb, D, rfl, h2, h3, h4⟩
  · rw [h2 k hk]
    exact Maps.look_nil true law38 ht (hz w) (keyOf_kp hk)
  · obtain ⟨v, ps, hrun, hv'⟩ := h2.look_ok law38 ht (hz w) (zd := .held z) (zp := []) rfl (keyOf_kp hk)
    rw [hrun, (h4 k hk).1]
    cases e : f k with
    | none =>
      rw [Maps.atKey_of_not_has (by rw [(h4 k hk).1, e]; rfl)] at hv'
      simp [hv] at hv'
      rw [hv'.1]
      rfl
    | some x =>
      rw [(h4 k hk).2 x e] at hv'
      simp [hv] at hv'
      rw [hv'.1]
      rfl
theorem MP.len {w : World} {mv : Value} {n : Nat} {f : KP → Option Value} (h : MP w mv n f) {t e : TypeId} (ht : Tryz.prog.underlying t = some (.map 38 e)) (ty : TypeId) : (Builtin.len_ #[t] ty #[mv]).run Tryz.prog w = .ok (.int .i64 n) w := by
  rcases h with ⟨rfl, rfl, h2⟩ | ⟨mb, D, rfl, h2, h3, h4⟩
  · exact Maps.len_nil ht ty
  · rw [h2.len ht ty, h3]
theorem MP.put {w : World} {mb : Nat} {n : Nat} {f : KP → Option Value} (h : MP w (.map (some mb)) n f) {t e : TypeId} (ht : Tryz.prog.underlying t = some (.map 38 e)) {k : KP} (hk : okP k) (v : Value) (hn : n < maxLen) :
    ∃ w', (Instr.mapUpdate t (.map (some mb)) (kc2 k) v).run Tryz.prog w = .ok () w' ∧ MP w' (.map (some mb)) (szP f k n) (setP f k (some v)) ∧ Ch (fun j => j = mb) w w' := by
  rcases h with ⟨h, _⟩ | ⟨mb', D, h1, h2, h3, h4⟩
  · cases h
  · cases h1
    obtain ⟨w', hrun, ho, htd⟩ := h2.store law38 ht hn (keyOf_kp hk) (val := v) (d := .held v) (ps := []) rfl
    have hD := h2.tidy law38
    have hsz : Maps.size (D.put (kp k) (.held v)) = szP f k n := by
      rw [Maps.size_put hD, h3, (h4 k hk).1]
      rfl
    refine ⟨w', hrun, .inr ⟨mb, D.put (kp k) (.held v), rfl, ?_, hsz, fun k' hk' => ?_⟩, ch_turned htd⟩
    · obtain ⟨es, clock, hb, F, hs, hd⟩ := ho
      refine ⟨es, clock, hb, F, ?_, hd⟩
      rw [← hsz, hd]
      simp [Maps.size, length_sorted]
    · by_cases q : k' = k
      · subst q
        refine ⟨by rw [Maps.has_put_same hD.isMap (law38.key (keyOf_kp hk))]; simp [setP], fun x hx z => ?_⟩
        simp [setP] at hx
        rw [Maps.atKey_put_same hD.isMap (law38.key (keyOf_kp hk)), hx]
      · have hne : kp k' ≠ kp k := fun r => q (kp_inj hk' hk r)
        rw [Maps.has_put_other hne]
        refine ⟨by rw [(h4 k' hk').1]; simp [setP, q], fun x hx z => ?_⟩
        simp [setP, q] at hx
        rw [Maps.atKey_put_other hne, (h4 k' hk').2 x hx]
theorem MP.del {w : World} {mb : Nat} {n : Nat} {f : KP → Option Value} (h : MP w (.map (some mb)) n f) {t e : TypeId} (ht : Tryz.prog.underlying t = some (.map 38 e)) {k : KP} (hk : okP k) (ty : TypeId) :
    ∃ w', (Builtin.delete_ #[t, 38] ty #[.map (some mb), kc2 k]).run Tryz.prog w = .ok (.tuple #[]) w' ∧ MP w' (.map (some mb)) (n - (if (f k).isSome then 1 else 0)) (setP f k none) ∧ Ch (fun j => j = mb) w w' := by
  rcases h with ⟨h, _⟩ | ⟨mb', D, h1, h2, h3, h4⟩
  · cases h
  · cases h1
    obtain ⟨w', hrun, ho, htd⟩ := h2.drop law38 ht (keyOf_kp hk) ty
    have hD := h2.tidy law38
    have hsz : Maps.size (D.del (kp k)) = n - (if (f k).isSome then 1 else 0) := by
      have := Maps.size_del (k := kp k) hD
      rw [(h4 k hk).1, h3] at this
      omega
    refine ⟨w', hrun, .inr ⟨mb, D.del (kp k), rfl, ?_, hsz, fun k' hk' => ?_⟩, ch_turned htd⟩
    · obtain ⟨es, clock, hb, F, hs, hd⟩ := ho
      refine ⟨es, clock, hb, F, ?_, hd⟩
      rw [← hsz, hd]
      simp [Maps.size, length_sorted]
    · by_cases q : k' = k
      · subst q
        refine ⟨by rw [Maps.has_del_same]; simp [setP], fun x hx z => ?_⟩
        simp [setP] at hx
      · have hne : kp k' ≠ kp k := fun r => q (kp_inj hk' hk r)
        rw [Maps.has_del_other hne]
        refine ⟨by rw [(h4 k' hk').1]; simp [setP, q], fun x hx z => ?_⟩
        simp [setP, q] at hx
        rw [Maps.atKey_del_other hne, (h4 k' hk').2 x hx]
end Go.Proofs.YtenaliaefbkbcaaGreat.Li
namespace Go.Proofs.YtenaliaefbkbcaaGreat.Li
open Go Go.RowKit Go.Maps
set_option linter.unusedSimpArgs false
set_option linter.unusedVariables false
theorem lits2 (d : Nat) (cs : List Value) (ls : List Lit) (h : Tryz.prog.keyLits (d + 1 + 1) 38 cs = some ls) : ∃ k : KP, cs = [.string k.1, .string k.2] ∧ okP k ∧ ls = [.string k.1.data.toList, .string k.2.data.toList] := by
  simp only [Program.keyLits, Tryz.underlying38, Tryz.underlying9, cells38, cells9, List.range_succ, List.range_zero, List.nil_append, List.cons_append, List.mapM_cons, List.mapM_nil] at h
  split at h
  · rename_i hl
    match cs, hl with
    | [a, b], _ =>
      cases a with
      | string s =>
        cases b with
        | string t =>
          simp only [Nat.zero_mul, Nat.one_mul, List.drop_zero, List.take_succ_cons, List.take_zero, List.drop_succ_cons] at h
          by_cases h1 : s.size ≤ maxLen
          · by_cases h2 : t.size ≤ maxLen
            · rw [if_pos h1, if_pos h2] at h
              simp at h
              exact ⟨(s, t), rfl, ⟨h1, h2⟩, h.symm⟩
            · rw [if_neg h2] at h
              simp at h
          · rw [if_neg h1] at h
            simp at h
        | _ => simp at h
      | _ => simp at h
  · cases h
set_option maxRecDepth 100000 in
theorem kp_of {key : Value} {kl : Lit} (h : keyOf Tryz.prog 38 key = some kl) : ∃ k : KP, key = kc2 k ∧ okP k ∧ kl = kp k := by
  obtain ⟨d, hd⟩ : ∃ d, Tryz.prog.types.size = d + 1 := ⟨Tryz.prog.types.size - 1, by have h31 : 38 < Tryz.prog.types.size := row38; omega⟩
  unfold keyOf at h
  rw [Tryz.underlying38] at h
  simp only [ktype38] at h
  split at h
  · rename_i hf
    rw [hd] at h
    obtain ⟨ls, h1, h2⟩ := Option.map_eq_some_iff.1 h
    obtain ⟨k, h3, h4, h5⟩ := lits2 d _ _ h1
    refine ⟨k, ?_, h4, by rw [← h2, h5]; rfl⟩
    simp only [Bool.true_and] at hf
    cases key with
    | agg cs =>
      have : cs.toList = [.string k.1, .string k.2] := h3
      unfold kc2
      congr 1
      apply Array.toList_inj.1
      simpa using this
    | _ => simp [Value.formed, Tryz.underlying38] at hf
  · cases h
end Go.Proofs.YtenaliaefbkbcaaGreat.Li
