import Derived.Test.YtbjhblnagmpnfaaDoorOd
namespace Go.Proofs.YtbjhblnagmpnfaaDoor
open Go Go.RowKit
set_option linter.unusedSimpArgs false
set_option linter.unusedVariables false
/-! ### A count of parts -/
def cAdd (L n : Int) : Int := if 0 ≤ L then L - n else L
def IsB (e : Ending) : Prop := ∃ b, e = .returned (.bool b)
/-- A count in memory. -/
def Ct (w : World) (c : Nat) (L : Int) : Prop := w.heap[c]? = some (.cells #[.int .i64 L] 97 (0, 0))
theorem Ct.cell {w : World} {c : Nat} {L : Int} (h : Ct w c L) : w.cell? ⟨c, 0, none⟩ = some (.int .i64 L) := box_cells h 0 _ rfl
theorem Ct.free {w : World} {c : Nat} {L : Int} (h : Ct w c L) : w.frozen? ⟨c, 0, none⟩ = false := box_frozen h 0
theorem Ct.set {w : World} {c : Nat} {L : Int} (h : Ct w c L) (L' : Int) : Ct (w.setCell ⟨c, 0, none⟩ (.int .i64 L')) c L' := by
  have := heap_set (k := 0) h (.int .i64 L')
  simpa [Ct] using this
theorem cAdd_le {L n : Int} (hn : 0 ≤ n) : cAdd L n ≤ L := by
  unfold cAdd
  split <;> omega
set_option maxHeartbeats 400000 in
theorem add_any {w : World} {c : Nat} {L : Int} (h : Ct w c L) (n : Int) (hL : L ≤ 2 ^ 60) (hn : 0 ≤ n ∧ n ≤ 2 ^ 63 - 1) :
    Calls Tryd.prog 62 #[.pointer (some ⟨c, 0, none⟩), .int .i64 n] w fun e w' => IsB e ∧ Ct w' c (cAdd L n) ∧ Ch (fun k => k = c) w w' := by
  have c0 := h.cell
  have f0 := h.free
  by_cases hp : 0 ≤ L
  · have hw : IntKind.i64.wrap (L - n) = L - n := by rw [IntKind.wrap_i64]; omega
    have c1 := (h.set (L - n)).cell
    have HZ : Hid (Ct (w.setCell ⟨c, 0, none⟩ (.int .i64 (L - n))) c (cAdd L n) ∧ Ch (fun k => k = c) w (w.setCell ⟨c, 0, none⟩ (.int .i64 (L - n)))) := ⟨by rw [cAdd, if_pos hp]; exact h.set _, ch_set _ _ _⟩
    clear h hn hL
    go_enter Tryd.func62, Tryd.ntmps62
    go_wp2
    go_ret
    exact ⟨⟨_, rfl⟩, HZ.out⟩
  · have HZ : Hid (Ct w c (cAdd L n) ∧ Ch (fun k => k = c) w w) := ⟨by rw [cAdd, if_neg hp]; exact h, Ch.refl _ _⟩
    have hp' : ¬ L ≥ 0 := hp
    clear h hn hL
    go_enter Tryd.func62, Tryd.ntmps62
    go_wp2
    go_ret
    exact ⟨⟨_, rfl⟩, HZ.out⟩
set_option maxHeartbeats 400000 in
theorem text_any {w : World} {c : Nat} {L : Int} (h : Ct w c L) (s : ByteArray) (hL : L ≤ 2 ^ 60) (hs : s.size ≤ maxLen) :
    Calls Tryd.prog 47 #[.pointer (some ⟨c, 0, none⟩), .string s] w fun e w' => e = .returned (.tuple #[]) ∧ Ct w' c (cAdd (cAdd L 1) s.size) ∧ Ch (fun k => k = c) w w' := by
  have hs' : (s.size : Int) ≤ 2 ^ 63 - 1 := by unfold maxLen at hs; omega
  have hb : cAdd L 1 ≤ L := cAdd_le (by omega)
  have HA := hidi (add_any h 1 (by omega) (by omega))
  have HB : Hid (∀ w', Ct w' c (cAdd L 1) → Calls Tryd.prog 62 #[.pointer (some ⟨c, 0, none⟩), .int .i64 s.size] w' fun e w'' => IsB e ∧ Ct w'' c (cAdd (cAdd L 1) s.size) ∧ Ch (fun k => k = c) w' w'') := fun w' h' => add_any h' _ (by omega) (by omega)
  clear h hL hs hs' hb
  go_enter Tryd.func47, Tryd.ntmps47
  go_wp2_with fail
  go_must (go_at_call 62)
  refine (HA.out).mono ?_
  rintro r w1 ⟨⟨b, rfl⟩, hk, hc⟩
  have J := hidi (HB.out _ hk)
  have C1 := hidi hc
  clear hk hc HA HB
  go_wp2_with fail
  go_must (go_at_call 62)
  refine (J.out).mono ?_
  rintro r w2 ⟨⟨b2, rfl⟩, hk, hc⟩
  have Z : Hid (Ct w2 c (cAdd (cAdd L 1) s.size) ∧ Ch (fun k => k = c) w w2) := ⟨hk, C1.out.trans hc (fun _ _ q => q)⟩
  clear hk hc J C1
  go_wp2_with fail
  exact bodyPost_end (results_none rfl _ _ _) rfl ⟨rfl, Z.out⟩
set_option maxHeartbeats 400000 in
theorem bytes_any {w : World} {c : Nat} {L : Int} (h : Ct w c L) (a : Option Addr) (n cp : Nat) (hL : L ≤ 2 ^ 60) (hs : n ≤ maxLen) :
    Calls Tryd.prog 48 #[.pointer (some ⟨c, 0, none⟩), .slice a n cp] w fun e w' => e = .returned (.tuple #[]) ∧ Ct w' c (cAdd (cAdd L 1) n) ∧ Ch (fun k => k = c) w w' := by
  have hs' : (n : Int) ≤ 2 ^ 63 - 1 := by unfold maxLen at hs; omega
  have hb : cAdd L 1 ≤ L := cAdd_le (by omega)
  have HA := hidi (add_any h 1 (by omega) (by omega))
  have HB : Hid (∀ w', Ct w' c (cAdd L 1) → Calls Tryd.prog 62 #[.pointer (some ⟨c, 0, none⟩), .int .i64 n] w' fun e w'' => IsB e ∧ Ct w'' c (cAdd (cAdd L 1) n) ∧ Ch (fun k => k = c) w' w'') := fun w' h' => add_any h' _ (by omega) (by omega)
  clear h hL hs hs' hb
  go_enter Tryd.func48, Tryd.ntmps48
  go_wp2_with fail
  go_must (go_at_call 62)
  refine (HA.out).mono ?_
  rintro r w1 ⟨⟨b, rfl⟩, hk, hc⟩
  have J := hidi (HB.out _ hk)
  have C1 := hidi hc
  clear hk hc HA HB
  go_wp2_with fail
  go_must (go_at_call 62)
  refine (J.out).mono ?_
  rintro r w2 ⟨⟨b2, rfl⟩, hk, hc⟩
  have Z : Hid (Ct w2 c (cAdd (cAdd L 1) n) ∧ Ch (fun k => k = c) w w2) := ⟨hk, C1.out.trans hc (fun _ _ q => q)⟩
  clear hk hc J C1
  go_wp2_with fail
  exact bodyPost_end (results_none rfl _ _ _) rfl ⟨rfl, Z.out⟩
def cMsg (L : Int) (s n : Nat) : Int := cAdd (cAdd (cAdd (cAdd L 1) s) 1) n
set_option maxHeartbeats 400000 in
theorem message_any {w : World} {c : Nat} {L : Int} (h : Ct w c L) (t : ByteArray) (a : Option Addr) (n cp : Nat) (q : Int) (r : Bool) (hL : L ≤ 2 ^ 60) (ht : t.size ≤ maxLen) (hs : n ≤ maxLen) :
    Calls Tryd.prog 28 #[.pointer (some ⟨c, 0, none⟩), .agg #[.string t, .slice a n cp, .int .i64 q, .bool r]] w fun e w' => e = .returned (.tuple #[]) ∧ Ct w' c (cMsg L t.size n) ∧ Ch (fun k => k = c) w w' := by
  obtain ⟨w1, hw1⟩ : ∃ w1, w1 = w.alloc (.cells #[.string t, .slice a n cp, .int .i64 q, .bool r] 30) := ⟨_, rfl⟩
  have a1 := heap_alloc_new w (.cells #[.string t, .slice a n cp, .int .i64 q, .bool r] 30)
  have b1 : Below w.heap.size w (w.alloc (.cells #[.string t, .slice a n cp, .int .i64 q, .bool r] 30)) := (Below.refl _ _).alloc (Nat.le_refl _) _
  rw [← hw1] at a1 b1
  have hcl : c < w.heap.size := (Array.getElem?_eq_some_iff.1 h).1
  have hc1 : Ct w1 c L := (b1.block c hcl).trans h
  have hb : cAdd (cAdd L 1) t.size ≤ L := Int.le_trans (cAdd_le (by omega)) (cAdd_le (by omega))
  have HA := hidi (text_any hc1 t hL ht)
  have HB := hidi (fun W (h' : Ct W c (cAdd (cAdd L 1) t.size)) => bytes_any h' a n cp (by omega) hs)
  have HX := hidi (And.intro a1 b1)
  have e0 := box_cells a1 0 _ rfl
  have e1 := box_cells a1 1 _ rfl
  have HCL := hidi hcl
  clear h hL ht hs a1 b1 hc1 hb hcl
  go_enter Tryd.func28, Tryd.ntmps28
  go_upto_region 1 with fail
  rw [← hw1]
  clear hw1
  go_wp2_with fail
  go_must (go_at_call 47)
  refine HA.out.mono ?_
  rintro e w2 ⟨rfl, hk, hc⟩
  have J := hidi (HB.out _ hk)
  have a2 : w2.heap[w.heap.size]? = some (.cells #[.string t, .slice a n cp, .int .i64 q, .bool r] 30 (0, 0)) := (hc.block _ (Array.getElem?_eq_some_iff.1 HX.out.1).1 (by have := HCL.out; omega)).trans HX.out.1
  clear e0 e1
  have e1 := box_cells a2 1 _ rfl
  have C1 := hidi hc
  clear hk hc HA HB a2
  go_wp2_with fail
  go_must (go_at_call 48)
  refine J.out.mono ?_
  rintro e w3 ⟨rfl, hk, hc⟩
  have Z := hidi (And.intro hk ((Below.ch (S := fun k => k = c) HX.out.2).trans (C1.out.trans hc (fun _ _ q => q)) (fun _ _ q => q)))
  clear hk hc J C1
  go_wp2_with fail
  exact bodyPost_end (results_none rfl _ _ _) rfl ⟨rfl, Z.out⟩
theorem cAdd_ok {L n : Int} (hn : 0 ≤ n) (h : 0 ≤ cAdd L n) : 0 ≤ L ∧ n ≤ L ∧ cAdd L n ≤ L := by
  refine ⟨?_, ?_, cAdd_le hn⟩ <;> (unfold cAdd at h; split at h <;> omega)
theorem cMsg_ok {L : Int} {s n : Nat} (h : 0 ≤ cMsg L s n) : (s : Int) ≤ L ∧ (n : Int) ≤ L := by
  unfold cMsg at h
  obtain ⟨a1, a2, a3⟩ := cAdd_ok (by omega) h
  obtain ⟨b1, b2, b3⟩ := cAdd_ok (by omega) a1
  obtain ⟨c1, c2, c3⟩ := cAdd_ok (by omega) b1
  obtain ⟨d1, d2, d3⟩ := cAdd_ok (by omega) c1
  omega
theorem cMsg_le (L : Int) (s n : Nat) : cMsg L s n ≤ L := Int.le_trans (cAdd_le (by omega)) (Int.le_trans (cAdd_le (by omega)) (Int.le_trans (cAdd_le (by omega)) (cAdd_le (by omega))))
theorem ok_any {w : World} {c : Nat} {L : Int} (h : Ct w c L) : Calls Tryd.prog 27 #[.pointer (some ⟨c, 0, none⟩)] w fun e w' => e = .returned (.bool (decide (0 ≤ L))) ∧ w' = w := by
  have c0 := h.cell
  clear h
  by_cases hp : 0 ≤ L
  · have hp' : L ≥ 0 := hp
    rw [decide_eq_true hp]
    go_enter Tryd.func27, Tryd.ntmps27
    go_wp2
    go_ret
    exact ⟨rfl, rfl⟩
  · have hp' : ¬ L ≥ 0 := hp
    rw [decide_eq_false hp]
    go_enter Tryd.func27, Tryd.ntmps27
    go_wp2
    go_ret
    exact ⟨rfl, rfl⟩
theorem many_any (n : Int) (w : World) : Calls Tryd.prog 26 #[.int .i64 n] w fun e w' => e = .returned (.pointer (some ⟨w.heap.size, 0, none⟩)) ∧ Ct w' w.heap.size n ∧ Below w.heap.size w w' := by
  have HZ : Hid (Ct (w.alloc (.cells #[.int .i64 n] 97)) w.heap.size n ∧ Below w.heap.size w (w.alloc (.cells #[.int .i64 n] 97))) := ⟨heap_alloc_new _ _, (Below.refl _ _).alloc (Nat.le_refl _) _⟩
  go_enter Tryd.func26, Tryd.ntmps26
  go_wp2
  go_ret
  exact ⟨rfl, HZ.out⟩
/-! ### A script -/
structure Ov where
  k : Int
  s : Bool
  m : Ms
  a : Int
  n : Int
def Ov.cs (o : Ov) : Array Value := #[.int .i64 o.k, .bool o.s, .string o.m.t, o.m.v, .int .i64 o.m.q, .bool o.m.r, .int .i64 o.a, .int .i64 o.n]
/-- A payload as it comes in. -/
def PR (w : World) (v : Value) (xs : List Int) : Prop :=
  (v = .slice none 0 0 ∧ xs = []) ∨ ∃ a n c, v = .slice (some a) n c ∧ xs.length = n ∧ n ≤ maxLen ∧ ∀ i, i < n → w.cell? (a.add i) = some (.int .u8 (xs.getD i 0))
theorem PR.sl {w : World} {v : Value} {xs : List Int} (h : PR w v xs) : ∃ a c, v = .slice a xs.length c ∧ xs.length ≤ maxLen := by
  rcases h with ⟨h, rfl⟩ | ⟨a, n, c, h, rfl, h3, -⟩
  · exact ⟨_, _, h, by unfold maxLen; simp⟩
  · exact ⟨_, _, h, h3⟩
theorem PR.i {w : World} {v : Value} {xs : List Int} (h : PR w v xs) (hn : xs.length ≤ 300000) : PBi w v xs := by
  rcases h with h | ⟨a, n, c, h1, h2, h3, h4⟩
  · exact .inl h
  · exact .inr ⟨a, n, c, h1, h2, by omega, h4⟩
theorem PR.keep {w w' : World} {v : Value} {xs : List Int} (h : PR w v xs) (hk : ∀ b, b < w.heap.size → w'.heap[b]? = w.heap[b]?) : PR w' v xs := by
  rcases h with h | ⟨a, n, c, h1, h2, h3, h4⟩
  · exact .inl h
  · exact .inr ⟨a, n, c, h1, h2, h3, fun i hi => (cell_heap (hk _ (World.block_lt_of_cell? _ _ (h4 i hi)))).trans (h4 i hi)⟩
structure Scr (w : World) (sa : Option Addr) (n cap : Nat) (ops : List Ov) : Prop where
  len : ops.length = n
  big : n ≤ maxLen
  cell : 0 < n → ∃ g o, sa = some ⟨g, o, none⟩ ∧ ∀ i (hi : i < ops.length) x, x < 8 → w.cell? ⟨g, o + i * 8 + x, none⟩ = ops[i].cs[x]?
  pay : ∀ o ∈ ops, PR w o.m.v o.m.xs
  txt : ∀ o ∈ ops, o.m.t.size ≤ maxLen
  wf : ∀ o ∈ ops, okI o.k ∧ okI o.a ∧ okI o.n
theorem Scr.keep {w w' : World} {sa : Option Addr} {n cap : Nat} {ops : List Ov} (h : Scr w sa n cap ops) (hk : ∀ b, b < w.heap.size → w'.heap[b]? = w.heap[b]?) : Scr w' sa n cap ops :=
  { h with
    cell := fun hn => by
      obtain ⟨g, o, e, hc⟩ := h.cell hn
      refine ⟨g, o, e, fun i hi x hx => ?_⟩
      have h1 := hc i hi x hx
      have hs : ∃ v, ops[i].cs[x]? = some v := by
        match x, hx with
        | 0, _ => exact ⟨_, rfl⟩
        | 1, _ => exact ⟨_, rfl⟩
        | 2, _ => exact ⟨_, rfl⟩
        | 3, _ => exact ⟨_, rfl⟩
        | 4, _ => exact ⟨_, rfl⟩
        | 5, _ => exact ⟨_, rfl⟩
        | 6, _ => exact ⟨_, rfl⟩
        | 7, _ => exact ⟨_, rfl⟩
      obtain ⟨v, hv⟩ := hs
      rw [hv] at h1 ⊢
      exact (cell_heap (hk g (World.block_lt_of_cell? _ ⟨g, o + i * 8 + x, none⟩ h1))).trans h1
    pay := fun o ho => (h.pay o ho).keep hk }
def Few (ops : List Ov) : Prop := ops.length ≤ 300 ∧ ∀ o ∈ ops, o.m.t.size ≤ 100000 ∧ o.m.xs.length ≤ 100000
set_option maxRecDepth 100000 in
set_option maxHeartbeats 4000000 in
theorem few_any {w : World} {sa : Option Addr} {n cap : Nat} {ops : List Ov} (h : Scr w sa n cap ops) : Calls Tryd.prog 7 #[.slice sa n cap] w fun e w' => ∃ x, e = .returned (.bool x) ∧ (x = true → Few ops) ∧ Below w.heap.size w w' := by
  have H := hidi h
  have HM := hidi (fun W => many_any 100000 W)
  have hmx : n ≤ 9223372036854775807 := by have := h.big; unfold maxLen at this; omega
  clear h
  go_enter Tryd.func7, Tryd.ntmps7
  go_wp2_with fail
  go_must (go_at_call 26)
  refine (HM.out w).mono ?_
  rintro e w1 ⟨rfl, hk, hb⟩
  have I0 := hidi (And.intro hk hb)
  clear hk hb HM
  go_wp2_with fail
  go_loopg [4] n (fun gk s4 wx => ∃ j : Nat, j + gk = n ∧ s4 = .int .i64 j ∧ Hid (∃ M : Int, Ct wx w.heap.size M ∧ M ≤ 100000 ∧ Below w.heap.size w wx ∧ (0 ≤ M → ∀ k (hk : k < ops.length), k < j → ops[k].m.t.size ≤ 100000 ∧ ops[k].m.xs.length ≤ 100000)))
  case atStart => exact ⟨0, by omega, rfl, 100000, I0.out.1, Int.le_refl _, I0.out.2, fun _ k _ hk => by omega⟩
  case round =>
    obtain ⟨j, hj, rfl, HI⟩ := hrel
    clear I0
    obtain ⟨M, hM, hM1, hbx, hall⟩ := HI.out
    have HOK := hidi (ok_any hM)
    obtain ⟨bm, hbm⟩ : ∃ bm, bm = decide (0 ≤ M) := ⟨_, rfl⟩
    rw [← hbm] at HOK
    have HX := hidi (And.intro hM (And.intro hM1 (And.intro hbx (And.intro hall hbm))))
    clear hM hM1 hbx hall hbm
    by_cases hjn : j < n
    · have hlt : (j : Int) < (n : Int) := by omega
      have hge : (0 : Int) ≤ (j : Int) := by omega
      cases bm
      · go_wp2_with (first | (go_at_call 27; refine HOK.out.mono ?_; rintro e w' ⟨rfl, rfl⟩))
        go_ret
        exact ⟨_, rfl, nofun, HX.out.2.2.1⟩
      · have hjf : j < ops.length := by rw [H.out.len]; exact hjn
        have hw1 : IntKind.i64.wrap ((j : Int) + 1) = (j : Int) + 1 := by rw [IntKind.wrap_i64]; omega
        have hscr := H.out.keep (fun b hb => HX.out.2.2.1.block b hb)
        obtain ⟨g, o, hsa, hcell⟩ := hscr.cell (by omega)
        subst hsa
        have hpy := hscr.pay _ (List.getElem_mem hjf)
        have htx := hscr.txt _ (List.getElem_mem hjf)
        have hc := hcell j hjf
        obtain ⟨f, hf⟩ : ∃ f, f = ops[j] := ⟨_, rfl⟩
        have HF := hidi hf
        rw [← hf] at hpy htx hc
        clear hf hcell hscr
        obtain ⟨k0, s0, ⟨t, v, q, r, xs⟩, a0, n0⟩ := f
        obtain ⟨pa, pc, hv, hln⟩ := hpy.sl
        simp only at hv
        subst hv
        obtain ⟨pn, hpn⟩ : ∃ pn, pn = xs.length := ⟨_, rfl⟩
        have k2 : wr.cell? ⟨g, o + j * 8 + 2, none⟩ = some (.string t) := hc 2 (by omega)
        have k3 : wr.cell? ⟨g, o + j * 8 + 3, none⟩ = some (.slice pa pn pc) := by rw [hpn]; exact hc 3 (by omega)
        have k4 : wr.cell? ⟨g, o + j * 8 + 4, none⟩ = some (.int .i64 q) := hc 4 (by omega)
        have k5 : wr.cell? ⟨g, o + j * 8 + 5, none⟩ = some (.bool r) := hc 5 (by omega)
        have MS := hidi (message_any HX.out.1 t pa pn pc q r (by have := HX.out.2.1; omega) htx (by rw [hpn]; exact hln))
        have HPN := hidi (And.intro hpn hjf)
        clear hc hpy htx hln hpn
        go_wp2_with (first | (go_at_call 27; refine HOK.out.mono ?_; rintro e w' ⟨rfl, rfl⟩) | (go_at_call 28; refine MS.out.mono ?_; clear MS; rintro e w2 ⟨rfl, hk, hch⟩; have HK := hidi (And.intro hk hch); clear hk hch))
        go_roundg (n - (j + 1))
        case measure => omega
        case rel =>
          refine ⟨j + 1, by omega, by first | rfl | simp, _, HK.out.1, Int.le_trans (cMsg_le _ _ _) HX.out.2.1, ?_, fun h0 k hk hkj => ?_⟩
          · have hb := HX.out.2.2.1
            have hcx := HK.out.2
            exact ⟨hcx.os.trans hb.os, hcx.tape.trans hb.tape, hcx.output.trans hb.output, Nat.le_trans hb.size hcx.size, fun b hbl => (hcx.block b (Nat.lt_of_lt_of_le hbl hb.size) (by omega)).trans (hb.block b hbl)⟩
          · have hM := cMsg_ok h0
            have h1 := HX.out.2.1
            by_cases e : k = j
            · subst e
              rw [← HF.out]
              simp only
              have := HPN.out.1
              omega
            · refine HX.out.2.2.2.1 ?_ k hk (by omega)
              have := HX.out.2.2.2.2
              exact of_decide_eq_true this.symm
    · have hlt : ¬ (j : Int) < (n : Int) := by omega
      have hjn' : j = n := by omega
      subst hjn'
      cases bm
      · go_wp2_with (first | (go_at_call 27; refine HOK.out.mono ?_; rintro e w' ⟨rfl, rfl⟩))
        go_ret
        exact ⟨_, rfl, nofun, HX.out.2.2.1⟩
      · by_cases hl : j ≤ 300
        · have hl1 : (j : Int) ≤ 300 := by omega
          go_wp2_with (first | (go_at_call 27; refine HOK.out.mono ?_; rintro e w' ⟨rfl, rfl⟩))
          go_ret
          refine ⟨_, rfl, fun _ => ⟨by rw [H.out.len]; exact hl, fun x hx => ?_⟩, HX.out.2.2.1⟩
          obtain ⟨k, hk, rfl⟩ := List.getElem_of_mem hx
          exact HX.out.2.2.2.1 (of_decide_eq_true HX.out.2.2.2.2.symm) k hk (by rw [← H.out.len]; exact hk)
        · have hl1 : ¬ (j : Int) ≤ 300 := by omega
          go_wp2_with (first | (go_at_call 27; refine HOK.out.mono ?_; rintro e w' ⟨rfl, rfl⟩))
          go_ret
          exact ⟨_, rfl, fun z => absurd z (by simp; try omega), HX.out.2.2.1⟩
end Go.Proofs.YtbjhblnagmpnfaaDoor
