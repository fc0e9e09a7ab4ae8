import Derived.Test.YtibihbclijpkjaaGreatDoorPRs
import Derived.Test.YtibihbclijpkjaaGreatDoorPRt
namespace Go.Proofs.YtibihbclijpkjaaGreatDoor
open Go Go.RowKit
open Pkt (Pk Cn Sl In By Is Ss As pkCells Gd KindsAt form isK isKind_any Small ck TT sumN Tx wpList_load_wanted)
set_option linter.unusedSimpArgs false
set_option linter.unusedVariables false

theorem head_nil (most : Int) (w : World) : Calls Tryz.prog 44 #[.slice none 0 0, .int .i64 most] w fun e w' => e = .returned (.tuple #[.int .i64 0, .int .i64 0, .nilIface]) ∧ w' = w := by
  go_enter Tryz.func44, Tryz.ntmps44
  go_wp2
  go_step3
  go_wp2
  try rw [Exit.noGoto_ret]
  go_ret3
  exact ⟨rfl, rfl⟩
set_option maxRecDepth 100000 in
set_option maxHeartbeats 1000000 in
theorem decode_nil (most : Int) (w : World) : Calls Tryz.prog 14 #[.slice none 0 0, .int .i64 most] w fun e w' => DecIs w w' e .more := by
  obtain ⟨W1, hW1⟩ : ∃ W, W = w.alloc (.cells (pkCells (blank 0)) 29) := ⟨_, rfl⟩
  have B1 : Hid (Below w.heap.size w W1) := by show Below _ _ _; rw [hW1]; exact (Below.refl _ _).alloc (Nat.le_refl _) _
  have Z1 : Hid (W1.heap[w.heap.size]? = some (.cells (pkCells (blank 0)) 29 (0, 0))) := by show _ = _; rw [hW1]; exact heap_alloc_new w _
  go_enter Tryz.func14, Tryz.ntmps14
  go_upto_region 1 with fail
  have eW : w.alloc (.cells #[.int .i64 0, .int .i64 0, .bool false, .int .i64 0, .string ⟨#[]⟩, .bool false, .string ⟨#[]⟩, .slice none 0 0, .int .i64 0, .bool false, .bool false, .string ⟨#[]⟩, .bool false, .slice none 0 0, .bool false, .int .i64 0, .bool false, .string ⟨#[]⟩, .slice none 0 0, .int .i64 0, .bool false, .int .i64 0, .slice none 0 0, .slice none 0 0, .slice none 0 0] 29) = W1 := hW1.symm
  rw [eW]
  clear eW hW1
  go_wp2_with fail
  go_must (go_at_call 44)
  refine (head_nil _ W1).mono ?_
  rintro e w' ⟨rfl, hee⟩
  obtain rfl := hee.symm
  clear hee
  go_wp2_with (first | (refine wpList_build_to rfl 29 _ rfl (pkCells (blank 0)) built_zero ?_) | (refine wpList_store_row rfl 29 _ _ rfl w.heap.size (pkCells (blank 0)) rfl rfl 29 (pkCells (blank 0)) Z1.out pk_info rfl (pk_one _) ?_))
  rw [setRow_self W1 w.heap.size _ 29 (0, 0) Z1.out]
  refine bodyPost_ret (results_row_tmp2 rfl _ _ w.heap.size 29 (pkCells (blank 0)) (0, 0) _ rfl Z1.out Tryz.underlying29 rfl pk_info) rfl ?_
  exact ⟨rfl, B1.out⟩
/-- A slice whose bytes came from a plain place. -/
def Plain (ao : Option Addr) : Prop := ∀ ad, ao = some ad → ∃ g off, ad = ⟨g, off, none⟩
theorem decode_came (ao : Option Addr) (n cpb : Nat) (z : Nat → Int) (most : Int) (w : World) (hc : Came w ao n cpb z) (hp : Plain ao) (hn : n ≤ 700000) (hg : Gd w) :
    Calls Tryz.prog 14 #[.slice ao n cpb, .int .i64 most] w fun e w' => DecIs w w' e (decP z n most) := by
  cases ao with
  | none =>
    obtain ⟨rfl, rfl⟩ := came_nil hc
    have e : decP z 0 most = .more := by simp [decP, headP, decH]
    rw [e]
    exact decode_nil most w
  | some ad =>
    obtain ⟨g, off, rfl⟩ := hp ad rfl
    exact decode_any g off n cpb z most w hc hn hg
/-- Two readings of one packet are the same. -/
theorem same_alike (p q q' : Pk) (c : Cn) (w : World) (h : Alike q p) (h' : Alike q' p) (hi : In w q c) (hi' : In w q' c) (hs : Small p c) :
    Calls Tryz.prog 19 #[.agg (pkCells q), .agg (pkCells q')] w fun e w' => e = .returned (.bool true) ∧ Below w.heap.size w w' := by
  have hs' : Small q' c := small_alike h' hs
  obtain ⟨s1, s2, s3, s4, s5, s6, rfl, h1, h2, h3, h4, h5, h6⟩ := h
  obtain ⟨t1, t2, t3, t4, t5, t6, rfl, g1, g2, g3, g4, g5, g6⟩ := h'
  exact Pkt.rsame_eq { p with wP := t1, pass := t2, mP := t3, asks := t4, codes := t5, filters := t6 } c s1 s2 s3 s4 s5 s6 w hi' hi (h1.trans g1.symm) (h2.trans g2.symm) (h3.trans g3.symm) (h4.trans g4.symm) (h5.trans g5.symm) (h6.trans g6.symm) hs'
end Go.Proofs.YtibihbclijpkjaaGreatDoor
namespace Go.Proofs.YtibihbclijpkjaaGreatDoor
open Go Go.RowKit
open Pkt (Pk Cn Sl In By Is Ss As pkCells Gd KindsAt form isK isKind_any Small ck TT sumN Tx wpList_load_wanted)
set_option linter.unusedSimpArgs false
set_option linter.unusedVariables false

/-! ### A fault has a number, a packet has bytes -/
section
variable {z : Nat → Int} {n : Nat}
theorem errOut_err {y : Rs × Pk × Cn} {x : Int × Int} (h : errOut y = .error x) : x.2 ≠ 0 := by
  unfold errOut at h
  split at h
  · rename_i hq; cases h; exact hq
  · cases h
theorem connect_err {r : Rs} {p : Pk} {c : Cn} {x : Int × Int} (h : connectP z n r p c = .error x) : x.2 ≠ 0 := by
  unfold connectP at h
  split at h
  · cases h; simp
  split at h
  · cases h; simp
  unfold cMid cEnd at h
  split at h
  · rename_i hq; cases h; exact hq
  · cases h
theorem connack_err {r : Rs} {p : Pk} {c : Cn} {x : Int × Int} (h : connackP z n r p c = .error x) : x.2 ≠ 0 := by
  unfold connackP at h
  split at h
  · cases h; simp
  split at h
  · rename_i hq; cases h; exact hq
  · cases h
theorem into_err {r : Rs} {k fl : Int} {c : Cn} {x : Int × Int} (h : intoP z n r k c fl = .error x) : x.2 ≠ 0 := by
  unfold intoP at h
  split at h
  · exact connect_err h
  split at h
  · exact connack_err h
  repeat (first | exact errOut_err h | split at h)
theorem pack_err {h : Nat} {x : Int × Int} (e : packP z n h = .error x) : x.2 ≠ 0 := by
  unfold packP at e
  split at e
  · rename_i y hy; cases e; exact into_err hy
  · split at e
    · cases e
    · rename_i hc
      cases e
      intro q
      have q' : ((ck TT _ _ : Nat) : Int) = 0 := q
      exact hc (by omega)
theorem pack_ok {h : Nat} {y : Pk × Cn} (hn : n ≤ 700000) (hh : h ≤ n) (e : packP z n h = .ok y) : Small y.1 y.2 := by
  unfold packP at e
  split at e
  · cases e
  · rename_i y' hy
    split at e
    · cases e; exact into_small hn hh hy
    · cases e
theorem len_err (most : Int) (f k : Nat) (acc : Int) {a b : Int} {x : Int × Int} (h : lenF z n most f k acc = (a, b, some x)) : x.2 ≠ 0 := by
  induction f generalizing k acc with
  | zero => cases h; decide
  | succ f ih =>
    unfold lenF at h
    split at h
    · cases h
    split at h
    · split at h
      · cases h; simp
      · cases h
    · exact ih _ _ h
theorem head_err (most : Int) {a b : Int} {x : Int × Int} (h : headP z n most = (a, b, some x)) : x.2 ≠ 0 := by
  unfold headP at h
  split at h
  · cases h
  split at h
  · rename_i hf; cases h; exact hf
  · exact len_err most 4 1 0 h
theorem dec_fault (most : Int) {x : Int × Int} (h : decP z n most = .fault x) : x.2 ≠ 0 := by
  unfold decP at h
  cases e : headP z n (clampM most) with
  | mk hd t =>
    obtain ⟨l, o⟩ := t
    rw [e] at h
    cases o with
    | some y => cases h; exact head_err _ e
    | none =>
      unfold decH at h
      simp only at h
      split at h
      · cases h
      · split at h
        · rename_i y hy; cases h; exact pack_err hy
        · cases h
theorem dec_ok (most : Int) (hz : ∀ i, 0 ≤ z i ∧ z i ≤ 255) (hn : n ≤ 700000) {p : Pk} {c : Cn} {N : Nat} (h : decP z n most = .ok p c N) : 0 < N ∧ N ≤ n ∧ Small p c := by
  unfold decP at h
  cases e : headP z n (clampM most) with
  | mk hd t =>
    obtain ⟨l, o⟩ := t
    rw [e] at h
    cases o with
    | some y => cases h
    | none =>
      unfold decH at h
      simp only at h
      split at h
      · cases h
      · rename_i hc
        split at h
        · cases h
        · rename_i y hy
          have h0 : hd ≠ 0 := fun q => hc (.inl q)
          obtain ⟨j, a1, a2, a3, a4, _⟩ := headP_out z n _ hz hd l e h0
          have hl : ¬ (n : Int) - hd < l := fun q => hc (.inr q)
          cases h
          refine ⟨by omega, by omega, pack_ok (by omega) (by omega) hy⟩
end
end Go.Proofs.YtibihbclijpkjaaGreatDoor
namespace Go.Proofs.YtibihbclijpkjaaGreatDoor
open Go Go.RowKit
open Pkt (Pk Cn Sl In By Is Ss As pkCells Gd KindsAt form isK isKind_any Small ck TT sumN Tx wpList_load_wanted)
set_option linter.unusedSimpArgs false
set_option linter.unusedVariables false

/-- What Decode tells, where it tells something. -/
structure Says where
  N : Nat
  f : Int × Int
  p : Pk
  c : Cn
def SaysIs (s : Says) (w w' : World) (e : Ending) : Prop :=
  ∃ (q : Pk) (ev : Value), e = .returned (.tuple #[.agg (pkCells q), .int .i64 (s.N : Int), ev]) ∧ (∀ w'', Below w'.heap.size w' w'' → Calls Tryz.prog 18 #[ev] w'' fun e w3 => e = .returned (.tuple #[.agg #[.int .i64 s.f.1, .int .i64 s.f.2], .bool true]) ∧ Below w''.heap.size w'' w3) ∧ In w' q s.c ∧ Alike q s.p ∧ Below w.heap.size w w'
theorem dec_says {z : Nat → Int} {n : Nat} {most : Int} (hz : ∀ i, 0 ≤ z i ∧ z i ≤ 255) (hn : n ≤ 700000) (h : decP z n most ≠ .more) :
    ∃ s : Says, (∀ w w' e, DecIs w w' e (decP z n most) → SaysIs s w w' e) ∧ (s.N = 0 → s.f.2 ≠ 0) ∧ Small s.p s.c ∧ s.N ≤ 700000 := by
  cases e : decP z n most with
  | more => exact absurd e h
  | fault x =>
    refine ⟨⟨0, x, blank 0, noCn⟩, ?_, fun _ => dec_fault most e, small_blank _ _, Nat.zero_le _⟩
    rintro w w' e' ⟨⟨gg, rfl, hgg⟩, hb⟩
    exact ⟨blank 0, _, rfl, fun w'' hb' => told_fault gg x.1 x.2 w'' ((hb'.block _ (lt_of_block hgg)).trans hgg) (dec_fault most e), in_blank _ _, Alike.refl _, hb⟩
  | ok p c N =>
    obtain ⟨h1, h2, h3⟩ := dec_ok most hz hn e
    refine ⟨⟨N, (0, 0), p, c⟩, ?_, fun q => absurd q (by show N ≠ 0; omega), h3, by show N ≤ 700000; omega⟩
    rintro w w' e' ⟨⟨q, rfl, hin, hal, _⟩, hb⟩
    exact ⟨q, _, rfl, fun w'' _ => told_nil w'', hin, hal, hb⟩
theorem came_cat {w : World} {ao : Option Addr} {n c : Nat} {z z' : Nat → Int} (h : Came w ao n c z) (hz' : ∀ i, 0 ≤ z' i ∧ z' i ≤ 255) : Came w ao n c (cat z n z') := by
  refine ⟨h.1, cat_bd h.2.1 hz', ?_⟩
  rcases h.2.2 with q | ⟨ad, e, q⟩
  · exact .inl q
  · exact .inr ⟨ad, e, fun i hi => by rw [q i hi]; simp [cat, hi]⟩
theorem own_plain {w : World} {base n m c : Nat} {ao : Option Addr} {xs : List Value} (h : w.ownsRow base 5 1 (.slice ao n c) m xs) : Plain ao := by
  intro ad e
  rcases h.2 with ⟨q, _⟩ | ⟨g, cap, cur, q, _⟩
  · injection q with q1; rw [q1] at e; cases e
  · injection q with q1; rw [q1] at e; cases e; exact ⟨_, _, rfl⟩
theorem eql45 (a b : Int) (w : World) : (binOp .eql 45 (.agg #[.int .i64 a, .int .i64 b]) (.agg #[.int .i64 a, .int .i64 b])).run Tryz.prog w = .ok (.bool true) w := by
  have hu : Tryz.prog.underlying 45 = some (.struct (Tryz.prog.fieldsOf 45)) := by kernel_rfl
  have hp : Tryz.prog.stoodInHeld 45 = false := by kernel_rfl
  rw [run_eql_struct, run_equalIn_agg w 9999 45 _ _ hu hp]
  clear hu hp
  simp only [Program.fieldsOf, Tryz.underlying45]
  go_simp
def KnownOk : Prop := ∀ w, Gd w → Calls Tryz.prog 8 #[] w fun e w' => e = .returned (.bool true) ∧ Below w.heap.size w w'
set_option maxRecDepth 100000 in
set_option maxHeartbeats 4000000 in
theorem firm_said (K : KnownOk) (a0 a1 : Option Addr) (l0 k0 l1 k1 : Nat) (z0 z1 : Nat → Int) (cut top : Int) (w : World) (h0 : Came w a0 l0 k0 z0) (p0 : Plain a0) (h1 : Came w a1 l1 k1 z1) (hg : Gd w) (hl0 : l0 ≤ 150000) (hl1 : l1 ≤ 150000)
    (hD : decP (cat z0 l0 z1) l0 top ≠ .more) :
    Calls Tryz.prog 5 #[.slice a0 l0 k0, .slice a1 l1 k1, .int .i64 cut, .int .i64 top] w fun e w' => e = .returned (.bool true) ∧ Below w.heap.size w w' := by
  have hz : ∀ i, 0 ≤ cat z0 l0 z1 i ∧ cat z0 l0 z1 i ≤ 255 := cat_bd h0.2.1 h1.2.1
  obtain ⟨s, hs, hs0, hsm, hsN⟩ := dec_says hz (by omega) hD
  have KK : Hid (Calls Tryz.prog 8 #[] w fun e w' => e = .returned (.bool true) ∧ Below w.heap.size w w') := K w hg
  have D1 : Hid (∀ w', Below w.heap.size w w' → Calls Tryz.prog 14 #[.slice a0 l0 k0, .int .i64 top] w' fun e w'' => SaysIs s w' w'' e) := fun w' hb =>
    (decode_came a0 l0 k0 _ top w' (came_below (B := 0) (came_cat h0 h1.2.1) hb) p0 (by omega) (hg.below hb)).mono fun e w'' q => hs _ _ _ q
  have BH : Hid (∀ w', Below w.heap.size w w' → Calls Tryz.prog 15 #[.slice a0 l0 k0, .slice a1 l1 k1] w' fun e w'' => OwnV w' w'' e (l0 + l1) (cellsOf (cat z0 l0 z1) (l0 + l1))) := fun w' hb => by
    rw [← cells_cat]
    exact lbehind_any a0 a1 l0 k0 l1 k1 z0 z1 w' (came_below (B := 0) h0 hb) (came_below (B := 0) h1 hb) (by omega) (by omega)
  have D2 : Hid (∀ w' ao c base, Below w.heap.size w w' → w'.ownsRow base 5 1 (.slice ao (l0 + l1) c) (l0 + l1) (cellsOf (cat z0 l0 z1) (l0 + l1)) → Calls Tryz.prog 14 #[.slice ao (l0 + l1) c, .int .i64 top] w' fun e w'' => SaysIs s w' w'' e) := fun w' ao c base hb ho => by
    have hpl : Plain ao := own_plain ho
    have := decode_came ao (l0 + l1) c _ top w' (came_own ho hz) hpl (by omega) (hg.below hb)
    rw [decP_firm _ l0 (l0 + l1) top (by omega) hD] at this
    exact this.mono fun e w'' q => hs _ _ _ q
  have S0 : Hid (s.N = 0 → s.f.2 ≠ 0) := hs0
  have SM : Hid (Small s.p s.c) := hsm
  clear hs hs0 hsm hD hz K hg h0 h1 p0
  obtain ⟨N, ⟨f1, f2⟩, p, c⟩ := s
  simp only at S0 SM
  have n1 : ¬ (150000 : Int) < l0 := by omega
  have n2 : ¬ (150000 : Int) < l1 := by omega
  go_enter Tryz.func5, Tryz.ntmps5
  go_wp2_with (go_at_call 8; refine KK.out.mono ?_; rintro e w1 ⟨rfl, hb⟩; have B1 : Hid (Below w.heap.size w w1) := hb; clear hb KK)
  go_must (go_at_call 14)
  refine (D1.out w1 B1.out).mono ?_
  rintro e w2 ⟨q, ev, rfl, ht, hin, hal, hb2⟩
  have B2 : Hid (Below w.heap.size w w2) := B1.out.trans (hb2.mono B1.out.size)
  obtain ⟨W3, hW3⟩ : ∃ W, W = w2.alloc (.cells (pkCells q) 29) := ⟨_, rfl⟩
  have bb3 : Below w2.heap.size w2 W3 := by rw [hW3]; exact (Below.refl _ _).alloc (Nat.le_refl _) _
  have B3 : Hid (Below w.heap.size w W3) := B2.out.trans (bb3.mono B2.out.size)
  have P3 : Hid (W3.heap[w2.heap.size]? = some (.cells (pkCells q) 29 (0, 0))) := by show _ = _; rw [hW3]; exact heap_alloc_new w2 _
  have I3 : Hid (In W3 q c) := hin.below bb3
  have A3 : Hid (Alike q p) := hal
  have T3 : Hid (Calls Tryz.prog 18 #[ev] W3 fun e w3 => e = .returned (.tuple #[.agg #[.int .i64 f1, .int .i64 f2], .bool true]) ∧ Below W3.heap.size W3 w3) := ht W3 bb3
  clear ht hin hal hb2 bb3 D1 B1 B2
  go_upto_region 6 with (first | (refine wpList_store_row rfl 29 _ _ rfl w2.heap.size (pkCells q) rfl rfl 29 _ (heap_alloc_new w2 _) pk_info rfl (pk_one _) ?_))
  rw [World.setRow_alloc_new, ← hW3]
  clear hW3
  go_wp2_with fail
  go_must (go_at_call 18)
  refine T3.out.mono ?_
  rintro e w4 ⟨rfl, hb4⟩
  obtain ⟨W5, hW5⟩ : ∃ W, W = w4.alloc (.cells #[.int .i64 f1, .int .i64 f2] 45) := ⟨_, rfl⟩
  have bb5 : Below w4.heap.size w4 W5 := by rw [hW5]; exact (Below.refl _ _).alloc (Nat.le_refl _) _
  have b35 : Below W3.heap.size W3 W5 := hb4.trans (bb5.mono hb4.size)
  have B5 : Hid (Below w.heap.size w W5) := B3.out.trans (b35.mono B3.out.size)
  have P5 : Hid (W5.heap[w2.heap.size]? = some (.cells (pkCells q) 29 (0, 0))) := (b35.block _ (lt_of_block P3.out)).trans P3.out
  have I5 : Hid (In W5 q c) := I3.out.below b35
  have F5 : Hid (W5.heap[w4.heap.size]? = some (.cells #[.int .i64 f1, .int .i64 f2] 45 (0, 0))) := by show _ = _; rw [hW5]; exact heap_alloc_new w4 _
  clear hb4 bb5 b35 T3 P3 I3 B3
  go_upto_region 7 with fail
  rw [← hW5]
  clear hW5
  have c1 : W5.cell? ⟨w4.heap.size, 1, none⟩ = some (.int .i64 f2) := by have q := F5.out; simp [World.cell?, q]
  have HB0 : Hid ((((N : Int) == 0) = true → (f2 == 0) = false)) := fun h => by
    have h' : (N : Int) = 0 := by simpa using h
    have := S0.out (by omega)
    simpa using this
  obtain ⟨b0, hb0⟩ : ∃ b, ((N : Int) == 0) = b := ⟨_, rfl⟩
  obtain ⟨b1, hb1⟩ : ∃ b, (f2 == 0) = b := ⟨_, rfl⟩
  have HB1 : Hid (b0 = true → b1 = false) := by have q := HB0.out; rw [hb0, hb1] at q; exact q
  clear HB0 S0
  have NN : ((N : Int) == (N : Int)) = true := by simp
  have E45 : ∀ w, (binOp .eql 45 (.agg #[.int .i64 f1, .int .i64 f2]) (.agg #[.int .i64 f1, .int .i64 f2])).run Tryz.prog w = .ok (.bool true) w := fun w => eql45 f1 f2 w
  have HE : Hid (∀ w, (binOp .eql 45 (.agg #[.int .i64 f1, .int .i64 f2]) (.agg #[.int .i64 f1, .int .i64 f2])).run Tryz.prog w = .ok (.bool true) w) := E45
  clear E45
  cases b0
  case' true => obtain rfl := HB1.out rfl
  all_goals
    go_upto_region 16 with fail
    clear c1 hb0 hb1 HB1
    go_wp2_with fail
    go_must (go_at_call 15)
    refine (BH.out W5 B5.out).mono ?_
    rintro e w6 ⟨ao, ca, rfl, ho, hb6⟩
    have B6 : Hid (Below w.heap.size w w6) := B5.out.trans (hb6.mono B5.out.size)
    have P6 : Hid (w6.heap[w2.heap.size]? = some (.cells (pkCells q) 29 (0, 0))) := (hb6.block _ (lt_of_block P5.out)).trans P5.out
    have I6 : Hid (In w6 q c) := I5.out.below hb6
    have F6 : Hid (w6.heap[w4.heap.size]? = some (.cells #[.int .i64 f1, .int .i64 f2] 45 (0, 0))) := (hb6.block _ (lt_of_block F5.out)).trans F5.out
    have DD : Hid (Calls Tryz.prog 14 #[.slice ao (l0 + l1) ca, .int .i64 top] w6 fun e w'' => SaysIs ⟨N, (f1, f2), p, c⟩ w6 w'' e) := D2.out w6 ao ca _ B6.out ho
    clear ho hb6 D2 BH P5 I5 F5 B5
    go_wp2_with fail
    go_must (go_at_call 14)
    refine DD.out.mono ?_
    rintro e w7 ⟨q', ev', rfl, ht, hin, hal, hb7⟩
    obtain ⟨W8, hW8⟩ : ∃ W, W = w7.alloc (.cells (pkCells q') 29) := ⟨_, rfl⟩
    have bb8 : Below w7.heap.size w7 W8 := by rw [hW8]; exact (Below.refl _ _).alloc (Nat.le_refl _) _
    have b68 : Below w6.heap.size w6 W8 := hb7.trans (bb8.mono hb7.size)
    have B8 : Hid (Below w.heap.size w W8) := B6.out.trans (b68.mono B6.out.size)
    have P8 : Hid (W8.heap[w2.heap.size]? = some (.cells (pkCells q) 29 (0, 0))) := (b68.block _ (lt_of_block P6.out)).trans P6.out
    have Q8 : Hid (W8.heap[w7.heap.size]? = some (.cells (pkCells q') 29 (0, 0))) := by show _ = _; rw [hW8]; exact heap_alloc_new w7 _
    have I8 : Hid (In W8 q c ∧ In W8 q' c) := ⟨I6.out.below b68, hin.below bb8⟩
    have F8 : Hid (W8.heap[w4.heap.size]? = some (.cells #[.int .i64 f1, .int .i64 f2] 45 (0, 0))) := (b68.block _ (lt_of_block F6.out)).trans F6.out
    have A8 : Hid (Alike q' p) := hal
    have T8 : Hid (Calls Tryz.prog 18 #[ev'] W8 fun e w3 => e = .returned (.tuple #[.agg #[.int .i64 f1, .int .i64 f2], .bool true]) ∧ Below W8.heap.size W8 w3) := ht W8 bb8
    clear ht hin hal hb7 bb8 b68 DD P6 I6 F6 B6
    go_upto_region 17 with (first | (refine wpList_store_row rfl 29 _ _ rfl w7.heap.size (pkCells q') rfl rfl 29 _ (heap_alloc_new w7 _) pk_info rfl (pk_one _) ?_))
    rw [World.setRow_alloc_new, ← hW8]
    clear hW8
    go_wp2_with fail
    go_must (go_at_call 18)
    refine T8.out.mono ?_
    rintro e w9 ⟨rfl, hb9⟩
    obtain ⟨W10, hW10⟩ : ∃ W, W = w9.alloc (.cells #[.int .i64 f1, .int .i64 f2] 45) := ⟨_, rfl⟩
    have bb10 : Below w9.heap.size w9 W10 := by rw [hW10]; exact (Below.refl _ _).alloc (Nat.le_refl _) _
    have b80 : Below W8.heap.size W8 W10 := hb9.trans (bb10.mono hb9.size)
    have B10 : Hid (Below w.heap.size w W10) := B8.out.trans (b80.mono B8.out.size)
    have P10 : Hid (W10.heap[w2.heap.size]? = some (.cells (pkCells q) 29 (0, 0))) := (b80.block _ (lt_of_block P8.out)).trans P8.out
    have Q10 : Hid (W10.heap[w7.heap.size]? = some (.cells (pkCells q') 29 (0, 0))) := (b80.block _ (lt_of_block Q8.out)).trans Q8.out
    have g4 := (b80.block _ (lt_of_block F8.out)).trans F8.out
    have g9 : W10.heap[w9.heap.size]? = some (.cells #[.int .i64 f1, .int .i64 f2] 45 (0, 0)) := by rw [hW10]; exact heap_alloc_new w9 _
    have e40 : W10.cell? ⟨w4.heap.size, 0, none⟩ = some (.int .i64 f1) := by simp [World.cell?, g4]
    have e41 : W10.cell? ⟨w4.heap.size, 1, none⟩ = some (.int .i64 f2) := by simp [World.cell?, g4]
    have e90 : W10.cell? ⟨w9.heap.size, 0, none⟩ = some (.int .i64 f1) := by simp [World.cell?, g9]
    have e91 : W10.cell? ⟨w9.heap.size, 1, none⟩ = some (.int .i64 f2) := by simp [World.cell?, g9]
    have SAME : Hid (Calls Tryz.prog 19 #[.agg (pkCells q), .agg (pkCells q')] W10 fun e w' => e = .returned (.bool true) ∧ Below W10.heap.size W10 w') := same_alike p q q' c W10 A3.out A8.out (I8.out.1.below b80) (I8.out.2.below b80) SM.out
    clear hb9 bb10 b80 T8 P8 Q8 I8 F8 B8 g4 g9
    go_upto_region 18 with fail
    rw [← hW10]
    clear hW10
    have E45 := HE.out
    go_wp2_with (first | (refine wpList_load_wanted rfl _ rfl w2.heap.size rfl _ (0, 0) P10.out (pk_size _) ?_) | (refine wpList_load_wanted rfl _ rfl w7.heap.size rfl _ (0, 0) Q10.out (pk_size _) ?_) | (go_at_call 19; refine SAME.out.mono ?_; rintro e w11 ⟨rfl, hb11⟩; have B11 : Hid (Below w.heap.size w w11) := B10.out.trans (hb11.mono B10.out.size); clear hb11))
    go_ret
    exact ⟨rfl, B11.out⟩
end Go.Proofs.YtibihbclijpkjaaGreatDoor
namespace Go.Proofs.YtibihbclijpkjaaGreatDoor
open Go Go.RowKit
open Pkt (Pk Cn Sl In By Is Ss As pkCells Gd KindsAt form isK isKind_any Small ck TT sumN Tx wpList_load_wanted)
set_option linter.unusedSimpArgs false
set_option linter.unusedVariables false

set_option maxRecDepth 100000 in
set_option maxHeartbeats 2000000 in
theorem firm_long (K : KnownOk) (a0 a1 : Option Addr) (l0 k0 l1 k1 : Nat) (cut top : Int) (w : World) (hg : Gd w) (hl : 150000 < l0 ∨ 150000 < l1) :
    Calls Tryz.prog 5 #[.slice a0 l0 k0, .slice a1 l1 k1, .int .i64 cut, .int .i64 top] w fun e w' => e = .returned (.bool true) ∧ Below w.heap.size w w' := by
  have KK : Hid (Calls Tryz.prog 8 #[] w fun e w' => e = .returned (.bool true) ∧ Below w.heap.size w w') := K w hg
  clear hg K
  by_cases h0 : (150000 : Int) < l0
  · clear hl
    go_enter Tryz.func5, Tryz.ntmps5
    go_wp2_with (go_at_call 8; refine KK.out.mono ?_; rintro e w1 ⟨rfl, hb⟩; have B1 : Hid (Below w.heap.size w w1) := hb; clear hb KK)
    go_ret
    exact ⟨rfl, B1.out⟩
  · have h1 : (150000 : Int) < l1 := by omega
    clear hl
    go_enter Tryz.func5, Tryz.ntmps5
    go_wp2_with (go_at_call 8; refine KK.out.mono ?_; rintro e w1 ⟨rfl, hb⟩; have B1 : Hid (Below w.heap.size w w1) := hb; clear hb KK)
    go_ret
    exact ⟨rfl, B1.out⟩
set_option maxRecDepth 100000 in
set_option maxHeartbeats 4000000 in
theorem firm_more (K : KnownOk) (a0 a1 : Option Addr) (l0 k0 l1 k1 : Nat) (z0 : Nat → Int) (cut top : Int) (w : World) (h0 : Came w a0 l0 k0 z0) (p0 : Plain a0) (hg : Gd w) (hl0 : l0 ≤ 150000) (hl1 : l1 ≤ 150000)
    (hD : decP z0 l0 top = .more) :
    Calls Tryz.prog 5 #[.slice a0 l0 k0, .slice a1 l1 k1, .int .i64 cut, .int .i64 top] w fun e w' => e = .returned (.bool true) ∧ Below w.heap.size w w' := by
  have KK : Hid (Calls Tryz.prog 8 #[] w fun e w' => e = .returned (.bool true) ∧ Below w.heap.size w w') := K w hg
  have D1 : Hid (∀ w', Below w.heap.size w w' → Calls Tryz.prog 14 #[.slice a0 l0 k0, .int .i64 top] w' fun e w'' => DecIs w' w'' e .more) := fun w' hb => by
    rw [← hD]
    exact decode_came a0 l0 k0 _ top w' (came_below (B := 0) h0 hb) p0 (by omega) (hg.below hb)
  have D2 : Hid (∀ w' m, Below w.heap.size w w' → m ≤ l0 → Calls Tryz.prog 14 #[.slice a0 m k0, .int .i64 top] w' fun e w'' => DecIs w' w'' e .more) := fun w' m hb hm => by
    rw [← decP_cut z0 l0 m top hm hD]
    have q := came_below (B := 0) h0 hb
    refine decode_came a0 m k0 _ top w' ⟨by have := q.1; omega, q.2.1, ?_⟩ p0 (by omega) (hg.below hb)
    rcases q.2.2 with ⟨e1, e2, e3⟩ | ⟨ad, e, c⟩
    · exact .inl ⟨e1, by omega, e3⟩
    · exact .inr ⟨ad, e, fun i hi => c i (by omega)⟩
  have few : (l0 : Int) < clampM top + 5 := decP_few z0 l0 top h0.2.1 hD
  have cb := clampM_bd top
  have C17 : Hid (∀ w, Calls Tryz.prog 17 #[.int .i64 top] w fun e w' => e = .returned (.int .i64 (clampM top)) ∧ w' = w) := fun w => clamp_any top w
  obtain ⟨T, hT⟩ : ∃ T, T = clampM top := ⟨_, rfl⟩
  rw [← hT] at few cb C17
  have HK : Hid (l0 ≤ k0 ∧ (a0 = none → l0 = 0 ∧ k0 = 0)) := ⟨h0.1, by rintro rfl; exact came_nil h0⟩
  clear hT hD hg h0 p0 K
  have n1 : ¬ (150000 : Int) < l0 := by omega
  have n2 : ¬ (150000 : Int) < l1 := by omega
  have n3 : ¬ T + 5 ≤ (l0 : Int) := by omega
  go_enter Tryz.func5, Tryz.ntmps5
  go_wp2_with (go_at_call 8; refine KK.out.mono ?_; rintro e w1 ⟨rfl, hb⟩; have B1 : Hid (Below w.heap.size w w1) := hb; clear hb KK)
  go_must (go_at_call 14)
  refine (D1.out w1 B1.out).mono ?_
  rintro e w2 ⟨rfl, hb2⟩
  have B2 : Hid (Below w.heap.size w w2) := B1.out.trans (hb2.mono B1.out.size)
  obtain ⟨W3, hW3⟩ : ∃ W, W = w2.alloc (.cells (pkCells (blank 0)) 29) := ⟨_, rfl⟩
  have bb3 : Below w2.heap.size w2 W3 := by rw [hW3]; exact (Below.refl _ _).alloc (Nat.le_refl _) _
  have B3 : Hid (Below w.heap.size w W3) := B2.out.trans (bb3.mono B2.out.size)
  clear hb2 bb3 D1 B1 B2
  go_upto_region 6 with (first | (refine wpList_store_row rfl 29 _ _ rfl w2.heap.size (pkCells (blank 0)) rfl rfl 29 _ (heap_alloc_new w2 _) pk_info rfl (pk_one _) ?_))
  rw [World.setRow_alloc_new, ← hW3]
  clear hW3
  go_wp2_with fail
  go_must (go_at_call 18)
  refine (told_nil W3).mono ?_
  rintro e w4 ⟨rfl, hb4⟩
  obtain ⟨W5, hW5⟩ : ∃ W, W = w4.alloc (.cells #[.int .i64 0, .int .i64 0] 45) := ⟨_, rfl⟩
  have bb5 : Below w4.heap.size w4 W5 := by rw [hW5]; exact (Below.refl _ _).alloc (Nat.le_refl _) _
  have B4 : Below w.heap.size w w4 := B3.out.trans (hb4.mono B3.out.size)
  have B5 : Hid (Below w.heap.size w W5) := B4.trans (bb5.mono B4.size)
  have F5 : W5.heap[w4.heap.size]? = some (.cells #[.int .i64 0, .int .i64 0] 45 (0, 0)) := by rw [hW5]; exact heap_alloc_new w4 _
  have c1 : W5.cell? ⟨w4.heap.size, 1, none⟩ = some (.int .i64 0) := by simp [World.cell?, F5]
  clear hb4 bb5 B4 F5 B3
  go_upto_region 7 with fail
  rw [← hW5]
  clear hW5
  by_cases hc : cut < 0
  · go_wp2_with (go_at_call 17; refine (C17.out _).mono ?_; rintro e w' ⟨rfl, hee⟩; obtain rfl := hee.symm; clear hee)
    go_ret
    exact ⟨rfl, B5.out⟩
  by_cases hc2 : (l0 : Int) < cut
  · go_wp2_with (go_at_call 17; refine (C17.out _).mono ?_; rintro e w' ⟨rfl, hee⟩; obtain rfl := hee.symm; clear hee)
    go_ret
    exact ⟨rfl, B5.out⟩
  obtain ⟨m, rfl⟩ : ∃ m : Nat, cut = (m : Int) := ⟨cut.toNat, by omega⟩
  have DD : Hid (Calls Tryz.prog 14 #[.slice a0 m k0, .int .i64 top] W5 fun e w'' => DecIs W5 w'' e .more) := D2.out W5 m B5.out (by omega)
  have mk : (m : Int) ≤ k0 := by have := HK.out.1; omega
  have mk2 : ¬ (k0 : Int) < m := by omega
  go_wp2_with (go_at_call 17; refine (C17.out _).mono ?_; rintro e w' ⟨rfl, hee⟩; obtain rfl := hee.symm; clear hee)
  go_must (go_at_call 14)
  refine DD.out.mono ?_
  rintro e w6 ⟨rfl, hb6⟩
  obtain ⟨W7, hW7⟩ : ∃ W, W = w6.alloc (.cells (pkCells (blank 0)) 29) := ⟨_, rfl⟩
  have bb7 : Below w6.heap.size w6 W7 := by rw [hW7]; exact (Below.refl _ _).alloc (Nat.le_refl _) _
  have B6 : Below w.heap.size w w6 := B5.out.trans (hb6.mono B5.out.size)
  have B7 : Hid (Below w.heap.size w W7) := B6.trans (bb7.mono B6.size)
  clear hb6 bb7 B6 DD
  go_upto_region 15 with (first | (refine wpList_store_row rfl 29 _ _ rfl w6.heap.size (pkCells (blank 0)) rfl rfl 29 _ (heap_alloc_new w6 _) pk_info rfl (pk_one _) ?_))
  rw [World.setRow_alloc_new, ← hW7]
  clear hW7
  go_wp2
  go_ret
  exact ⟨rfl, B7.out⟩
/-- CodecFirm tells true, once what is known is. -/
theorem firm_any (K : KnownOk) (a0 a1 : Option Addr) (l0 k0 l1 k1 : Nat) (z0 z1 : Nat → Int) (cut top : Int) (w : World) (h0 : Came w a0 l0 k0 z0) (p0 : Plain a0) (h1 : Came w a1 l1 k1 z1) (hg : Gd w) :
    Calls Tryz.prog 5 #[.slice a0 l0 k0, .slice a1 l1 k1, .int .i64 cut, .int .i64 top] w fun e w' => e = .returned (.bool true) ∧ Below w.heap.size w w' := by
  by_cases hl : 150000 < l0 ∨ 150000 < l1
  · exact firm_long K a0 a1 l0 k0 l1 k1 cut top w hg hl
  by_cases hD : decP (cat z0 l0 z1) l0 top = .more
  · exact firm_more K a0 a1 l0 k0 l1 k1 _ cut top w (came_cat h0 h1.2.1) p0 hg (by omega) (by omega) hD
  · exact firm_said K a0 a1 l0 k0 l1 k1 z0 z1 cut top w h0 p0 h1 hg (by omega) (by omega) hD
end Go.Proofs.YtibihbclijpkjaaGreatDoor
namespace Go.Proofs.YtibihbclijpkjaaGreatDoor
open Go Go.RowKit
open Pkt (Pk Cn Sl In By Is Ss As pkCells Gd KindsAt form isK isKind_any Small ck TT sumN Tx wpList_load_wanted)
set_option linter.unusedSimpArgs false
set_option linter.unusedVariables false

/-- Bytes of a list, and nothing behind. -/
def listZ (L : List Int) : Nat → Int := fun i => L.getD i 0
theorem first_ping : firstP 192 = 0 := by kernel_rfl
theorem first_ack : firstP 64 = 0 := by kernel_rfl
theorem head_one : headP (listZ [192, 128, 0]) 3 (clampM 9) = (3, 0, none) := by kernel_rfl
theorem head_two : headP (listZ [192]) 1 (clampM 9) = (0, 0, none) := by kernel_rfl
theorem head_three : headP (listZ [64, 3, 0, 10, 0]) 5 (clampM 9) = (2, 3, none) := by kernel_rfl
theorem ck_ping : ck TT (blank 12) noCn = 0 := by kernel_rfl
theorem into_one : intoP (listZ [192, 128, 0]) 3 ⟨3, 0, 0⟩ 12 noCn 0 = .ok (⟨3, 0, 0⟩, blank 12, noCn) := by kernel_rfl
theorem into_three : intoP (listZ [64, 3, 0, 10, 0]) 5 ⟨2, 0, 0⟩ 4 noCn 0 = .error (4, 15) := by kernel_rfl
theorem dec_one : decP (listZ [192, 128, 0]) 3 9 = .ok (blank 12) noCn 3 := by
  rw [decP, head_one]
  show (match packP (listZ [192, 128, 0]) 3 3 with | .error x => DecR.fault x | .ok y => DecR.ok y.1 y.2 3) = _
  have e : packP (listZ [192, 128, 0]) 3 3 = .ok (blank 12, noCn) := by
    unfold packP
    rw [show intoP (listZ [192, 128, 0]) 3 ⟨3, 0, 0⟩ (listZ [192, 128, 0] 0 / 16) noCn (listZ [192, 128, 0] 0 % 16) = .ok (⟨3, 0, 0⟩, blank 12, noCn) from into_one]
    simp only [ck_ping, if_true]
  rw [e]
theorem dec_two : decP (listZ [192]) 1 9 = .more := by rw [decP, head_two]; rfl
theorem dec_three : decP (listZ [64, 3, 0, 10, 0]) 5 9 = .fault (4, 15) := by
  rw [decP, head_three]
  show (match packP (listZ [64, 3, 0, 10, 0]) 5 2 with | .error x => DecR.fault x | .ok y => DecR.ok y.1 y.2 5) = _
  have e : packP (listZ [64, 3, 0, 10, 0]) 5 2 = .error (4, 15) := by
    unfold packP
    rw [show intoP (listZ [64, 3, 0, 10, 0]) 5 ⟨2, 0, 0⟩ (listZ [64, 3, 0, 10, 0] 0 / 16) noCn (listZ [64, 3, 0, 10, 0] 0 % 16) = .error (4, 15) from into_three]
  rw [e]
end Go.Proofs.YtibihbclijpkjaaGreatDoor
namespace Go.Proofs.YtibihbclijpkjaaGreatDoor
open Go Go.RowKit
open Pkt (Pk Cn Sl In By Is Ss As pkCells Gd KindsAt form isK isKind_any Small ck TT sumN Tx wpList_load_wanted)
set_option linter.unusedSimpArgs false
set_option linter.unusedVariables false

theorem lsame_any (ao ao' : Option Addr) (len cap len' cap' : Nat) (z z' : Nat → Int) (w : World) (h : Came w ao len cap z) (h' : Came w ao' len' cap' z') :
    Calls Tryz.prog 29 #[.slice ao len cap, .slice ao' len' cap'] w fun e w' => e = .returned (.bool ((strZ z len).toList == (strZ z' len').toList)) ∧ w' = w := by
  have c1 := conv_any ao len cap z w h
  have c2 := conv_any ao' len' cap' z' w h'
  clear h h'
  go_enter Tryz.func29, Tryz.ntmps29
  go_wp2
  go_ret
  exact ⟨rfl, rfl⟩
theorem lsame_eq (a b : Option Addr) (n k k' : Nat) (z : Nat → Int) (w : World) (h : Came w a n k z) (h' : Came w b n k' z) : Calls Tryz.prog 29 #[.slice a n k, .slice b n k'] w fun e w' => e = .returned (.bool true) ∧ w' = w := by
  have t := lsame_any a b n k n k' z z w h h'
  rw [beq_self_eq_true] at t
  exact t
theorem lnum_any (n : Int) (w : World) : Calls Tryz.prog 12 #[.int .i64 n] w fun e w' => e = .returned (.int .i64 n) ∧ w' = w := by
  go_enter Tryz.func12, Tryz.ntmps12
  go_wp2
  go_ret
  exact ⟨rfl, rfl⟩
/-- The packet whose bytes are known. -/
def pubK (b : Nat) : Pk := { blank 3 with mT := ⟨#[97, 47, 98]⟩, mP := ⟨some ⟨b, 0, none⟩, 2, 2⟩, mQ := 1, id := 10 }
def bytesK : Nat → Int := listZ [50, 9, 0, 3, 97, 47, 98, 0, 10, 104, 105]
def EncOk : Prop := ∀ w b, Gd w → By w ⟨some ⟨b, 0, none⟩, 2, 2⟩ (listZ [104, 105]) → Calls Tryz.prog 11 #[.agg (pkCells (pubK b))] w fun e w' => ∃ a c, e = .returned (.tuple #[.slice a 11 c, .int .i64 0]) ∧ Came w' a 11 c bytesK ∧ Below w.heap.size w w'
theorem built_k (b : Nat) : Tryz.prog.built 29 [(0, .int .i64 3), (14, .agg #[.string ⟨#[97, 47, 98]⟩, .slice (some ⟨b, 0, none⟩) 2 2, .int .i64 1, .bool false]), (15, .int .i64 10)] = some (pkCells (pubK b)) := by kernel_rfl
theorem listZ_bd (L : List Int) (h : ∀ x ∈ L, 0 ≤ x ∧ x ≤ 255) (i : Nat) : 0 ≤ listZ L i ∧ listZ L i ≤ 255 := by
  unfold listZ
  by_cases hi : i < L.length
  · have : L.getD i 0 ∈ L := by simp [hi]
    exact h _ this
  · simp [List.getD, List.getElem?_eq_none (by omega : L.length ≤ i)]
/-- Bytes of a block that was laid. -/
theorem came_list {w : World} {b : Nat} (L : List Int) (hL : ∀ x ∈ L, 0 ≤ x ∧ x ≤ 255) (h : w.heap[b]? = some (.cells (L.map (.int .u8)).toArray 5 (0, 0))) : Came w (some ⟨b, 0, none⟩) L.length L.length (listZ L) := by
  refine ⟨Nat.le_refl _, listZ_bd L hL, .inr ⟨_, rfl, fun i hi => ?_⟩⟩
  rw [plain_add, Nat.zero_add]
  simp [World.cell?, h, listZ, hi]
end Go.Proofs.YtibihbclijpkjaaGreatDoor
