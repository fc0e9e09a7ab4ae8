import Derived.Test.YtibihbclijpkjaaGreatDoorFdv
namespace Go.Proofs.YtibihbclijpkjaaGreatDoor
open Go Go.RowKit
open Pkt (Pk Cn Sl In By Is Ss As pkCells Gd KindsAt form isK isKind_any Small ck TT sumN Tx wpList_load_wanted)
set_option linter.unusedSimpArgs false
set_option linter.unusedVariables false

/-- What Decode tells, where it tells something. -/
structure Says where
  N : Nat
  f : Int × Int
  p : Pk
  c : Cn
def SaysIs (s : Says) (w w' : World) (e : Ending) : Prop :=
  ∃ (q : Pk) (ev : Value), e = .returned (.tuple #[.agg (pkCells q), .int .i64 (s.N : Int), ev]) ∧ (∀ w'', Below w'.heap.size w' w'' → Calls Tryz.prog 18 #[ev] w'' fun e w3 => e = .returned (.tuple #[.agg #[.int .i64 s.f.1, .int .i64 s.f.2], .bool true]) ∧ Below w''.heap.size w'' w3) ∧ In w' q s.c ∧ Alike q s.p ∧ Below w.heap.size w w'
theorem dec_says {z : Nat → Int} {n : Nat} {most : Int} (hz : ∀ i, 0 ≤ z i ∧ z i ≤ 255) (hn : n ≤ 700000) (h : decP z n most ≠ .more) :
    ∃ s : Says, (∀ w w' e, DecIs w w' e (decP z n most) → SaysIs s w w' e) ∧ (s.N = 0 → s.f.2 ≠ 0) ∧ Small s.p s.c ∧ s.N ≤ 700000 := by
  cases e : decP z n most with
  | more => exact absurd e h
  | fault x =>
    refine ⟨⟨0, x, blank 0, noCn⟩, ?_, fun _ => dec_fault most e, small_blank _ _, Nat.zero_le _⟩
    rintro w w' e' ⟨⟨gg, rfl, hgg⟩, hb⟩
    exact ⟨blank 0, _, rfl, fun w'' hb' => told_fault gg x.1 x.2 w'' ((hb'.block _ (lt_of_block hgg)).trans hgg) (dec_fault most e), in_blank _ _, Alike.refl _, hb⟩
  | ok p c N =>
    obtain ⟨h1, h2, h3⟩ := dec_ok most hz hn e
    refine ⟨⟨N, (0, 0), p, c⟩, ?_, fun q => absurd q (by show N ≠ 0; omega), h3, by show N ≤ 700000; omega⟩
    rintro w w' e' ⟨⟨q, rfl, hin, hal, _⟩, hb⟩
    exact ⟨q, _, rfl, fun w'' _ => told_nil w'', hin, hal, hb⟩
theorem came_cat {w : World} {ao : Option Addr} {n c : Nat} {z z' : Nat → Int} (h : Came w ao n c z) (hz' : ∀ i, 0 ≤ z' i ∧ z' i ≤ 255) : Came w ao n c (cat z n z') := by
  refine ⟨h.1, cat_bd h.2.1 hz', ?_⟩
  rcases h.2.2 with q | ⟨ad, e, q⟩
  · exact .inl q
  · exact .inr ⟨ad, e, fun i hi => by rw [q i hi]; simp [cat, hi]⟩
theorem own_plain {w : World} {base n m c : Nat} {ao : Option Addr} {xs : List Value} (h : w.ownsRow base 5 1 (.slice ao n c) m xs) : Plain ao := by
  intro ad e
  rcases h.2 with ⟨q, _⟩ | ⟨g, cap, cur, q, _⟩
  · injection q with q1; rw [q1] at e; cases e
  · injection q with q1; rw [q1] at e; cases e; exact ⟨_, _, rfl⟩
theorem eql45 (a b : Int) (w : World) : (binOp .eql 45 (.agg #[.int .i64 a, .int .i64 b]) (.agg #[.int .i64 a, .int .i64 b])).run Tryz.prog w = .ok (.bool true) w := by
  have hu : Tryz.prog.underlying 45 = some (.struct (Tryz.prog.fieldsOf 45)) := by kernel_rfl
  have hp : Tryz.prog.stoodInHeld 45 = false := by kernel_rfl
  rw [run_eql_struct, run_equalIn_agg w 9999 45 _ _ hu hp]
  clear hu hp
  simp only [Program.fieldsOf, Tryz.underlying45]
  go_simp
def KnownOk : Prop := ∀ w, Gd w → Calls Tryz.prog 8 #[] w fun e w' => e = .returned (.bool true) ∧ Below w.heap.size w w'
set_option maxRecDepth 100000 in
set_option maxHeartbeats 4000000 in
theorem firm_said (K : KnownOk) (a0 a1 : Option Addr) (l0 k0 l1 k1 : Nat) (z0 z1 : Nat → Int) (cut top : Int) (w : World) (h0 : Came w a0 l0 k0 z0) (p0 : Plain a0) (h1 : Came w a1 l1 k1 z1) (hg : Gd w) (hl0 : l0 ≤ 150000) (hl1 : l1 ≤ 150000)
    (hD : decP (cat z0 l0 z1) l0 top ≠ .more) :
    Calls Tryz.prog 5 #[.slice a0 l0 k0, .slice a1 l1 k1, .int .i64 cut, .int .i64 top] w fun e w' => e = .returned (.bool true) ∧ Below w.heap.size w w' := by
  have hz : ∀ i, 0 ≤ cat z0 l0 z1 i ∧ cat z0 l0 z1 i ≤ 255 := cat_bd h0.2.1 h1.2.1
  obtain ⟨s, hs, hs0, hsm, hsN⟩ := dec_says hz (by omega) hD
  have KK : Hid (Calls Tryz.prog 8 #[] w fun e w' => e = .returned (.bool true) ∧ Below w.heap.size w w') := K w hg
  have D1 : Hid (∀ w', Below w.heap.size w w' → Calls Tryz.prog 14 #[.slice a0 l0 k0, .int .i64 top] w' fun e w'' => SaysIs s w' w'' e) := fun w' hb =>
    (decode_came a0 l0 k0 _ top w' (came_below (B := 0) (came_cat h0 h1.2.1) hb) p0 (by omega) (hg.below hb)).mono fun e w'' q => hs _ _ _ q
  have BH : Hid (∀ w', Below w.heap.size w w' → Calls Tryz.prog 15 #[.slice a0 l0 k0, .slice a1 l1 k1] w' fun e w'' => OwnV w' w'' e (l0 + l1) (cellsOf (cat z0 l0 z1) (l0 + l1))) := fun w' hb => by
    rw [← cells_cat]
    exact lbehind_any a0 a1 l0 k0 l1 k1 z0 z1 w' (came_below (B := 0) h0 hb) (came_below (B := 0) h1 hb) (by omega) (by omega)
  have D2 : Hid (∀ w' ao c base, Below w.heap.size w w' → w'.ownsRow base 5 1 (.slice ao (l0 + l1) c) (l0 + l1) (cellsOf (cat z0 l0 z1) (l0 + l1)) → Calls Tryz.prog 14 #[.slice ao (l0 + l1) c, .int .i64 top] w' fun e w'' => SaysIs s w' w'' e) := fun w' ao c base hb ho => by
    have hpl : Plain ao := own_plain ho
    have := decode_came ao (l0 + l1) c _ top w' (came_own ho hz) hpl (by omega) (hg.below hb)
    rw [decP_firm _ l0 (l0 + l1) top (by omega) hD] at this
    exact this.mono fun e w'' q => hs _ _ _ q
  have S0 : Hid (s.N = 0 → s.f.2 ≠ 0) := hs0
  have SM : Hid (Small s.p s.c) := hsm
  clear hs hs0 hsm hD hz K hg h0 h1 p0
  obtain ⟨N, ⟨f1, f2⟩, p, c⟩ := s
  simp only at S0 SM
  have n1 : ¬ (150000 : Int) < l0 := by omega
  have n2 : ¬ (150000 : Int) < l1 := by omega
  go_enter Tryz.func5, Tryz.ntmps5
  go_wp2_with (go_at_call 8; refine KK.out.mono ?_; rintro e w1 ⟨rfl, hb⟩; have B1 : Hid (Below w.heap.size w w1) := hb; clear hb KK)
  go_must (go_at_call 14)
  refine (D1.out w1 B1.out).mono ?_
  rintro e w2 ⟨q, ev, rfl, ht, hin, hal, hb2⟩
  have B2 : Hid (Below w.heap.size w w2) := B1.out.trans (hb2.mono B1.out.size)
  obtain ⟨W3, hW3⟩ : ∃ W, W = w2.alloc (.cells (pkCells q) 29) := ⟨_, rfl⟩
  have bb3 : Below w2.heap.size w2 W3 := by rw [hW3]; exact (Below.refl _ _).alloc (Nat.le_refl _) _
  have B3 : Hid (Below w.heap.size w W3) := B2.out.trans (bb3.mono B2.out.size)
  have P3 : Hid (W3.heap[w2.heap.size]? = some (.cells (pkCells q) 29 (0, 0))) := by show _ = _; rw [hW3]; exact heap_alloc_new w2 _
  have I3 : Hid (In W3 q c) := hin.below bb3
  have A3 : Hid (Alike q p) := hal
  have T3 : Hid (Calls Tryz.prog 18 #[ev] W3 fun e w3 => e = .returned (.tuple #[.agg #[.int .i64 f1, .int .i64 f2], .bool true]) ∧ Below W3.heap.size W3 w3) := ht W3 bb3
  clear ht hin hal hb2 bb3 D1 B1 B2
  go_upto_region 6 with (first | (refine wpList_store_row rfl 29 _ _ rfl w2.heap.size (pkCells q) rfl rfl 29 _ (heap_alloc_new w2 _) pk_info rfl (pk_one _) ?_))
  rw [World.setRow_alloc_new, ← hW3]
  clear hW3
  go_wp2_with fail
  go_must (go_at_call 18)
  refine T3.out.mono ?_
  rintro e w4 ⟨rfl, hb4⟩
  obtain ⟨W5, hW5⟩ : ∃ W, W = w4.alloc (.cells #[.int .i64 f1, .int .i64 f2] 45) := ⟨_, rfl⟩
  have bb5 : Below w4.heap.size w4 W5 := by rw [hW5]; exact (Below.refl _ _).alloc (Nat.le_refl _) _
  have b35 : Below W3.heap.size W3 W5 := hb4.trans (bb5.mono hb4.size)
  have B5 : Hid (Below w.heap.size w W5) := B3.out.trans (b35.mono B3.out.size)
  have P5 : Hid (W5.heap[w2.heap.size]? = some (.cells (pkCells q) 29 (0, 0))) := (b35.block _ (lt_of_block P3.out)).trans P3.out
  have I5 : Hid (In W5 q c) := I3.out.below b35
  have F5 : Hid (W5.heap[w4.heap.size]? = some (.cells #[.int .i64 f1, .int .i64 f2] 45 (0, 0))) := by show _ = _; rw [hW5]; exact heap_alloc_new w4 _
  clear hb4 bb5 b35 T3 P3 I3 B3
  go_upto_region 7 with fail
  rw [← hW5]
  clear hW5
  have c1 : W5.cell? ⟨w4.heap.size, 1, none⟩ = some (.int .i64 f2) := by have q := F5.out; simp [World.cell?, q]
  have HB0 : Hid ((((N : Int) == 0) = true → (f2 == 0) = false)) := fun h => by
    have h' : (N : Int) = 0 := by simpa using h
    have := S0.out (by omega)
    simpa using this
  obtain ⟨b0, hb0⟩ : ∃ b, ((N : Int) == 0) = b := ⟨_, rfl⟩
  obtain ⟨b1, hb1⟩ : ∃ b, (f2 == 0) = b := ⟨_, rfl⟩
  have HB1 : Hid (b0 = true → b1 = false) := by have q := HB0.out; rw [hb0, hb1] at q; exact q
  clear HB0 S0
  have NN : ((N : Int) == (N : Int)) = true := by simp
  have E45 : ∀ w, (binOp .eql 45 (.agg #[.int .i64 f1, .int .i64 f2]) (.agg #[.int .i64 f1, .int .i64 f2])).run Tryz.prog w = .ok (.bool true) w := fun w => eql45 f1 f2 w
  have HE : Hid (∀ w, (binOp .eql 45 (.agg #[.int .i64 f1, .int .i64 f2]) (.agg #[.int .i64 f1, .int .i64 f2])).run Tryz.prog w = .ok (.bool true) w) := E45
  clear E45
  cases b0
  case' true => obtain rfl := HB1.out rfl
  all_goals
    go_upto_region 16 with fail
    clear c1 hb0 hb1 HB1
    go_wp2_with fail
    go_must (go_at_call 15)
    refine (BH.out W5 B5.out).mono ?_
    rintro e w6 ⟨ao, ca, rfl, ho, hb6⟩
    have B6 : Hid (Below w.heap.size w w6) := B5.out.trans (hb6.mono B5.out.size)
    have P6 : Hid (w6.heap[w2.heap.size]? = some (.cells (pkCells q) 29 (0, 0))) := (hb6.block _ (lt_of_block P5.out)).trans P5.out
    have I6 : Hid (In w6 q c) := I5.out.below hb6
    have F6 : Hid (w6.heap[w4.heap.size]? = some (.cells #[.int .i64 f1, .int .i64 f2] 45 (0, 0))) := (hb6.block _ (lt_of_block F5.out)).trans F5.out
    have DD : Hid (Calls Tryz.prog 14 #[.slice ao (l0 + l1) ca, .int .i64 top] w6 fun e w'' => SaysIs ⟨N, (f1, f2), p, c⟩ w6 w'' e) := D2.out w6 ao ca _ B6.out ho
    clear ho hb6 D2 BH P5 I5 F5 B5
    go_wp2_with fail
    go_must (go_at_call 14)
    refine DD.out.mono ?_
    rintro e w7 ⟨q', ev', rfl, ht, hin, hal, hb7⟩
    obtain ⟨W8, hW8⟩ : ∃ W, W = w7.alloc (.cells (pkCells q') 29) := ⟨_, rfl⟩
    have bb8 : Below w7.heap.size w7 W8 := by rw [hW8]; exact (Below.refl _ _).alloc (Nat.le_refl _) _
    have b68 : Below w6.heap.size w6 W8 := hb7.trans (bb8.mono hb7.size)
    have B8 : Hid (Below w.heap.size w W8) := B6.out.trans (b68.mono B6.out.size)
    have P8 : Hid (W8.heap[w2.heap.size]? = some (.cells (pkCells q) 29 (0, 0))) := (b68.block _ (lt_of_block P6.out)).trans P6.out
    have Q8 : Hid (W8.heap[w7.heap.size]? = some (.cells (pkCells q') 29 (0, 0))) := by show _ = _; rw [hW8]; exact heap_alloc_new w7 _
    have I8 : Hid (In W8 q c ∧ In W8 q' c) := ⟨I6.out.below b68, hin.below bb8⟩
    have F8 : Hid (W8.heap[w4.heap.size]? = some (.cells #[.int .i64 f1, .int .i64 f2] 45 (0, 0))) := (b68.block _ (lt_of_block F6.out)).trans F6.out
    have A8 : Hid (Alike q' p) := hal
    have T8 : Hid (Calls Tryz.prog 18 #[ev'] W8 fun e w3 => e = .returned (.tuple #[.agg #[.int .i64 f1, .int .i64 f2], .bool true]) ∧ Below W8.heap.size W8 w3) := ht W8 bb8
    clear ht hin hal hb7 bb8 b68 DD P6 I6 F6 B6
    go_upto_region 17 with (first | (refine wpList_store_row rfl 29 _ _ rfl w7.heap.size (pkCells q') rfl rfl 29 _ (heap_alloc_new w7 _) pk_info rfl (pk_one _) ?_))
    rw [World.setRow_alloc_new, ← hW8]
    clear hW8
    go_wp2_with fail
    go_must (go_at_call 18)
    refine T8.out.mono ?_
    rintro e w9 ⟨rfl, hb9⟩
    obtain ⟨W10, hW10⟩ : ∃ W, W = w9.alloc (.cells #[.int .i64 f1, .int .i64 f2] 45) := ⟨_, rfl⟩
    have bb10 : Below w9.heap.size w9 W10 := by rw [hW10]; exact (Below.refl _ _).alloc (Nat.le_refl _) _
    have b80 : Below W8.heap.size W8 W10 := hb9.trans (bb10.mono hb9.size)
    have B10 : Hid (Below w.heap.size w W10) := B8.out.trans (b80.mono B8.out.size)
    have P10 : Hid (W10.heap[w2.heap.size]? = some (.cells (pkCells q) 29 (0, 0))) := (b80.block _ (lt_of_block P8.out)).trans P8.out
    have Q10 : Hid (W10.heap[w7.heap.size]? = some (.cells (pkCells q') 29 (0, 0))) := (b80.block _ (lt_of_block Q8.out)).trans Q8.out
    have g4 := (b80.block _ (lt_of_block F8.out)).trans F8.out
    have g9 : W10.heap[w9.heap.size]? = some (.cells #[.int .i64 f1, .int .i64 f2] 45 (0, 0)) := by rw [hW10]; exact heap_alloc_new w9 _
    have e40 : W10.cell? ⟨w4.heap.size, 0, none⟩ = some (.int .i64 f1) := by simp [World.cell?, g4]
    have e41 : W10.cell? ⟨w4.heap.size, 1, none⟩ = some (.int .i64 f2) := by simp [World.cell?, g4]
    have e90 : W10.cell? ⟨w9.heap.size, 0, none⟩ = some (.int .i64 f1) := by simp [World.cell?, g9]
    have e91 : W10.cell? ⟨w9.heap.size, 1, none⟩ = some (.int .i64 f2) := by simp [World.cell?, g9]
    have SAME : Hid (Calls Tryz.prog 19 #[.agg (pkCells q), .agg (pkCells q')] W10 fun e w' => e = .returned (.bool true) ∧ Below W10.heap.size W10 w') := same_alike p q q' c W10 A3.out A8.out (I8.out.1.below b80) (I8.out.2.below b80) SM.out
    clear hb9 bb10 b80 T8 P8 Q8 I8 F8 B8 g4 g9
    go_upto_region 18 with fail
    rw [← hW10]
    clear hW10
    have E45 := HE.out
    go_wp2_with (first | (refine wpList_load_wanted rfl _ rfl w2.heap.size rfl _ (0, 0) P10.out (pk_size _) ?_) | (refine wpList_load_wanted rfl _ rfl w7.heap.size rfl _ (0, 0) Q10.out (pk_size _) ?_) | (go_at_call 19; refine SAME.out.mono ?_; rintro e w11 ⟨rfl, hb11⟩; have B11 : Hid (Below w.heap.size w w11) := B10.out.trans (hb11.mono B10.out.size); clear hb11))
    go_ret
    exact ⟨rfl, B11.out⟩
end Go.Proofs.YtibihbclijpkjaaGreatDoor
namespace Go.Proofs.YtibihbclijpkjaaGreatDoor
open Go Go.RowKit
open Pkt (Pk Cn Sl In By Is Ss As pkCells Gd KindsAt form isK isKind_any Small ck TT sumN Tx wpList_load_wanted)
set_option linter.unusedSimpArgs false
set_option linter.unusedVariables false

set_option maxRecDepth 100000 in
set_option maxHeartbeats 2000000 in
theorem firm_long (K : KnownOk) (a0 a1 : Option Addr) (l0 k0 l1 k1 : Nat) (cut top : Int) (w : World) (hg : Gd w) (hl : 150000 < l0 ∨ 150000 < l1) :
    Calls Tryz.prog 5 #[.slice a0 l0 k0, .slice a1 l1 k1, .int .i64 cut, .int .i64 top] w fun e w' => e = .returned (.bool true) ∧ Below w.heap.size w w' := by
  have KK : Hid (Calls Tryz.prog 8 #[] w fun e w' => e = .returned (.bool true) ∧ Below w.heap.size w w') := K w hg
  clear hg K
  by_cases h0 : (150000 : Int) < l0
  · clear hl
    go_enter Tryz.func5, Tryz.ntmps5
    go_wp2_with (go_at_call 8; refine KK.out.mono ?_; rintro e w1 ⟨rfl, hb⟩; have B1 : Hid (Below w.heap.size w w1) := hb; clear hb KK)
    go_ret
    exact ⟨rfl, B1.out⟩
  · have h1 : (150000 : Int) < l1 := by omega
    clear hl
    go_enter Tryz.func5, Tryz.ntmps5
    go_wp2_with (go_at_call 8; refine KK.out.mono ?_; rintro e w1 ⟨rfl, hb⟩; have B1 : Hid (Below w.heap.size w w1) := hb; clear hb KK)
    go_ret
    exact ⟨rfl, B1.out⟩
set_option maxRecDepth 100000 in
set_option maxHeartbeats 4000000 in
theorem firm_more (K : KnownOk) (a0 a1 : Option Addr) (l0 k0 l1 k1 : Nat) (z0 : Nat → Int) (cut top : Int) (w : World) (h0 : Came w a0 l0 k0 z0) (p0 : Plain a0) (hg : Gd w) (hl0 : l0 ≤ 150000) (hl1 : l1 ≤ 150000)
    (hD : decP z0 l0 top = .more) :
    Calls Tryz.prog 5 #[.slice a0 l0 k0, .slice a1 l1 k1, .int .i64 cut, .int .i64 top] w fun e w' => e = .returned (.bool true) ∧ Below w.heap.size w w' := by
  have KK : Hid (Calls Tryz.prog 8 #[] w fun e w' => e = .returned (.bool true) ∧ Below w.heap.size w w') := K w hg
  have D1 : Hid (∀ w', Below w.heap.size w w' → Calls Tryz.prog 14 #[.slice a0 l0 k0, .int .i64 top] w' fun e w'' => DecIs w' w'' e .more) := fun w' hb => by
    rw [← hD]
    exact decode_came a0 l0 k0 _ top w' (came_below (B := 0) h0 hb) p0 (by omega) (hg.below hb)
  have D2 : Hid (∀ w' m, Below w.heap.size w w' → m ≤ l0 → Calls Tryz.prog 14 #[.slice a0 m k0, .int .i64 top] w' fun e w'' => DecIs w' w'' e .more) := fun w' m hb hm => by
    rw [← decP_cut z0 l0 m top hm hD]
    have q := came_below (B := 0) h0 hb
    refine decode_came a0 m k0 _ top w' ⟨by have := q.1; omega, q.2.1, ?_⟩ p0 (by omega) (hg.below hb)
    rcases q.2.2 with ⟨e1, e2, e3⟩ | ⟨ad, e, c⟩
    · exact .inl ⟨e1, by omega, e3⟩
    · exact .inr ⟨ad, e, fun i hi => c i (by omega)⟩
  have few : (l0 : Int) < clampM top + 5 := decP_few z0 l0 top h0.2.1 hD
  have cb := clampM_bd top
  have C17 : Hid (∀ w, Calls Tryz.prog 17 #[.int .i64 top] w fun e w' => e = .returned (.int .i64 (clampM top)) ∧ w' = w) := fun w => clamp_any top w
  obtain ⟨T, hT⟩ : ∃ T, T = clampM top := ⟨_, rfl⟩
  rw [← hT] at few cb C17
  have HK : Hid (l0 ≤ k0 ∧ (a0 = none → l0 = 0 ∧ k0 = 0)) := ⟨h0.1, by rintro rfl; exact came_nil h0⟩
  clear hT hD hg h0 p0 K
  have n1 : ¬ (150000 : Int) < l0 := by omega
  have n2 : ¬ (150000 : Int) < l1 := by omega
  have n3 : ¬ T + 5 ≤ (l0 : Int) := by omega
  go_enter Tryz.func5, Tryz.ntmps5
  go_wp2_with (go_at_call 8; refine KK.out.mono ?_; rintro e w1 ⟨rfl, hb⟩; have B1 : Hid (Below w.heap.size w w1) := hb; clear hb KK)
  go_must (go_at_call 14)
  refine (D1.out w1 B1.out).mono ?_
  rintro e w2 ⟨rfl, hb2⟩
  have B2 : Hid (Below w.heap.size w w2) := B1.out.trans (hb2.mono B1.out.size)
  obtain ⟨W3, hW3⟩ : ∃ W, W = w2.alloc (.cells (pkCells (blank 0)) 29) := ⟨_, rfl⟩
  have bb3 : Below w2.heap.size w2 W3 := by rw [hW3]; exact (Below.refl _ _).alloc (Nat.le_refl _) _
  have B3 : Hid (Below w.heap.size w W3) := B2.out.trans (bb3.mono B2.out.size)
  clear hb2 bb3 D1 B1 B2
  go_upto_region 6 with (first | (refine wpList_store_row rfl 29 _ _ rfl w2.heap.size (pkCells (blank 0)) rfl rfl 29 _ (heap_alloc_new w2 _) pk_info rfl (pk_one _) ?_))
  rw [World.setRow_alloc_new, ← hW3]
  clear hW3
  go_wp2_with fail
  go_must (go_at_call 18)
  refine (told_nil W3).mono ?_
  rintro e w4 ⟨rfl, hb4⟩
  obtain ⟨W5, hW5⟩ : ∃ W, W = w4.alloc (.cells #[.int .i64 0, .int .i64 0] 45) := ⟨_, rfl⟩
  have bb5 : Below w4.heap.size w4 W5 := by rw [hW5]; exact (Below.refl _ _).alloc (Nat.le_refl _) _
  have B4 : Below w.heap.size w w4 := B3.out.trans (hb4.mono B3.out.size)
  have B5 : Hid (Below w.heap.size w W5) := B4.trans (bb5.mono B4.size)
  have F5 : W5.heap[w4.heap.size]? = some (.cells #[.int .i64 0, .int .i64 0] 45 (0, 0)) := by rw [hW5]; exact heap_alloc_new w4 _
  have c1 : W5.cell? ⟨w4.heap.size, 1, none⟩ = some (.int .i64 0) := by simp [World.cell?, F5]
  clear hb4 bb5 B4 F5 B3
  go_upto_region 7 with fail
  rw [← hW5]
  clear hW5
  by_cases hc : cut < 0
  · go_wp2_with (go_at_call 17; refine (C17.out _).mono ?_; rintro e w' ⟨rfl, hee⟩; obtain rfl := hee.symm; clear hee)
    go_ret
    exact ⟨rfl, B5.out⟩
  by_cases hc2 : (l0 : Int) < cut
  · go_wp2_with (go_at_call 17; refine (C17.out _).mono ?_; rintro e w' ⟨rfl, hee⟩; obtain rfl := hee.symm; clear hee)
    go_ret
    exact ⟨rfl, B5.out⟩
  obtain ⟨m, rfl⟩ : ∃ m : Nat, cut = (m : Int) := ⟨cut.toNat, by omega⟩
  have DD : Hid (Calls Tryz.prog 14 #[.slice a0 m k0, .int .i64 top] W5 fun e w'' => DecIs W5 w'' e .more) := D2.out W5 m B5.out (by omega)
  have mk : (m : Int) ≤ k0 := by have := HK.out.1; omega
  have mk2 : ¬ (k0 : Int) < m := by omega
  go_wp2_with (go_at_call 17; refine (C17.out _).mono ?_; rintro e w' ⟨rfl, hee⟩; obtain rfl := hee.symm; clear hee)
  go_must (go_at_call 14)
  refine DD.out.mono ?_
  rintro e w6 ⟨rfl, hb6⟩
  obtain ⟨W7, hW7⟩ : ∃ W, W = w6.alloc (.cells (pkCells (blank 0)) 29) := ⟨_, rfl⟩
  have bb7 : Below w6.heap.size w6 W7 := by rw [hW7]; exact (Below.refl _ _).alloc (Nat.le_refl _) _
  have B6 : Below w.heap.size w w6 := B5.out.trans (hb6.mono B5.out.size)
  have B7 : Hid (Below w.heap.size w W7) := B6.trans (bb7.mono B6.size)
  clear hb6 bb7 B6 DD
  go_upto_region 15 with (first | (refine wpList_store_row rfl 29 _ _ rfl w6.heap.size (pkCells (blank 0)) rfl rfl 29 _ (heap_alloc_new w6 _) pk_info rfl (pk_one _) ?_))
  rw [World.setRow_alloc_new, ← hW7]
  clear hW7
  go_wp2
  go_ret
  exact ⟨rfl, B7.out⟩
/-- CodecFirm tells true, once what is known is. -/
theorem firm_any (K : KnownOk) (a0 a1 : Option Addr) (l0 k0 l1 k1 : Nat) (z0 z1 : Nat → Int) (cut top : Int) (w : World) (h0 : Came w a0 l0 k0 z0) (p0 : Plain a0) (h1 : Came w a1 l1 k1 z1) (hg : Gd w) :
    Calls Tryz.prog 5 #[.slice a0 l0 k0, .slice a1 l1 k1, .int .i64 cut, .int .i64 top] w fun e w' => e = .returned (.bool true) ∧ Below w.heap.size w w' := by
  by_cases hl : 150000 < l0 ∨ 150000 < l1
  · exact firm_long K a0 a1 l0 k0 l1 k1 cut top w hg hl
  by_cases hD : decP (cat z0 l0 z1) l0 top = .more
  · exact firm_more K a0 a1 l0 k0 l1 k1 _ cut top w (came_cat h0 h1.2.1) p0 hg (by omega) (by omega) hD
  · exact firm_said K a0 a1 l0 k0 l1 k1 z0 z1 cut top w h0 p0 h1 hg (by omega) (by omega) hD
end Go.Proofs.YtibihbclijpkjaaGreatDoor
namespace Go.Proofs.YtibihbclijpkjaaGreatDoor
open Go Go.RowKit
open Pkt (Pk Cn Sl In By Is Ss As pkCells Gd KindsAt form isK isKind_any Small ck TT sumN Tx wpList_load_wanted)
set_option linter.unusedSimpArgs false
set_option linter.unusedVariables false

/-- Bytes of a list, and nothing behind. -/
def listZ (L : List Int) : Nat → Int := fun i => L.getD i 0
theorem first_ping : firstP 192 = 0 := by kernel_rfl
theorem first_ack : firstP 64 = 0 := by kernel_rfl
theorem head_one : headP (listZ [192, 128, 0]) 3 (clampM 9) = (3, 0, none) := by kernel_rfl
theorem head_two : headP (listZ [192]) 1 (clampM 9) = (0, 0, none) := by kernel_rfl
theorem head_three : headP (listZ [64, 3, 0, 10, 0]) 5 (clampM 9) = (2, 3, none) := by kernel_rfl
theorem ck_ping : ck TT (blank 12) noCn = 0 := by kernel_rfl
theorem into_one : intoP (listZ [192, 128, 0]) 3 ⟨3, 0, 0⟩ 12 noCn 0 = .ok (⟨3, 0, 0⟩, blank 12, noCn) := by kernel_rfl
theorem into_three : intoP (listZ [64, 3, 0, 10, 0]) 5 ⟨2, 0, 0⟩ 4 noCn 0 = .error (4, 15) := by kernel_rfl
theorem dec_one : decP (listZ [192, 128, 0]) 3 9 = .ok (blank 12) noCn 3 := by
  rw [decP, head_one]
  show (match packP (listZ [192, 128, 0]) 3 3 with | .error x => DecR.fault x | .ok y => DecR.ok y.1 y.2 3) = _
  have e : packP (listZ [192, 128, 0]) 3 3 = .ok (blank 12, noCn) := by
    unfold packP
    rw [show intoP (listZ [192, 128, 0]) 3 ⟨3, 0, 0⟩ (listZ [192, 128, 0] 0 / 16) noCn (listZ [192, 128, 0] 0 % 16) = .ok (⟨3, 0, 0⟩, blank 12, noCn) from into_one]
    simp only [ck_ping, if_true]
  rw [e]
theorem dec_two : decP (listZ [192]) 1 9 = .more := by rw [decP, head_two]; rfl
theorem dec_three : decP (listZ [64, 3, 0, 10, 0]) 5 9 = .fault (4, 15) := by
  rw [decP, head_three]
  show (match packP (listZ [64, 3, 0, 10, 0]) 5 2 with | .error x => DecR.fault x | .ok y => DecR.ok y.1 y.2 5) = _
  have e : packP (listZ [64, 3, 0, 10, 0]) 5 2 = .error (4, 15) := by
    unfold packP
    rw [show intoP (listZ [64, 3, 0, 10, 0]) 5 ⟨2, 0, 0⟩ (listZ [64, 3, 0, 10, 0] 0 / 16) noCn (listZ [64, 3, 0, 10, 0] 0 % 16) = .error (4, 15) from into_three]
  rw [e]
end Go.Proofs.YtibihbclijpkjaaGreatDoor
namespace Go.Proofs.YtibihbclijpkjaaGreatDoor
open Go Go.RowKit
open Pkt (Pk Cn Sl In By Is Ss As pkCells Gd KindsAt form isK isKind_any Small ck TT sumN Tx wpList_load_wanted)
set_option linter.unusedSimpArgs false
set_option linter.unusedVariables false

theorem lsame_any (ao ao' : Option Addr) (len cap len' cap' : Nat) (z z' : Nat → Int) (w : World) (h : Came w ao len cap z) (h' : Came w ao' len' cap' z') :
    Calls Tryz.prog 29 #[.slice ao len cap, .slice ao' len' cap'] w fun e w' => e = .returned (.bool ((strZ z len).toList == (strZ z' len').toList)) ∧ w' = w := by
  have c1 := conv_any ao len cap z w h
  have c2 := conv_any ao' len' cap' z' w h'
  clear h h'
  go_enter Tryz.func29, Tryz.ntmps29
  go_wp2
  go_ret
  exact ⟨rfl, rfl⟩
theorem lsame_eq (a b : Option Addr) (n k k' : Nat) (z : Nat → Int) (w : World) (h : Came w a n k z) (h' : Came w b n k' z) : Calls Tryz.prog 29 #[.slice a n k, .slice b n k'] w fun e w' => e = .returned (.bool true) ∧ w' = w := by
  have t := lsame_any a b n k n k' z z w h h'
  rw [beq_self_eq_true] at t
  exact t
theorem lnum_any (n : Int) (w : World) : Calls Tryz.prog 12 #[.int .i64 n] w fun e w' => e = .returned (.int .i64 n) ∧ w' = w := by
  go_enter Tryz.func12, Tryz.ntmps12
  go_wp2
  go_ret
  exact ⟨rfl, rfl⟩
/-- The packet whose bytes are known. -/
def pubK (b : Nat) : Pk := { blank 3 with mT := ⟨#[97, 47, 98]⟩, mP := ⟨some ⟨b, 0, none⟩, 2, 2⟩, mQ := 1, id := 10 }
def bytesK : Nat → Int := listZ [50, 9, 0, 3, 97, 47, 98, 0, 10, 104, 105]
def EncOk : Prop := ∀ w b, Gd w → By w ⟨some ⟨b, 0, none⟩, 2, 2⟩ (listZ [104, 105]) → Calls Tryz.prog 11 #[.agg (pkCells (pubK b))] w fun e w' => ∃ a c, e = .returned (.tuple #[.slice a 11 c, .int .i64 0]) ∧ Came w' a 11 c bytesK ∧ Below w.heap.size w w'
theorem built_k (b : Nat) : Tryz.prog.built 29 [(0, .int .i64 3), (14, .agg #[.string ⟨#[97, 47, 98]⟩, .slice (some ⟨b, 0, none⟩) 2 2, .int .i64 1, .bool false]), (15, .int .i64 10)] = some (pkCells (pubK b)) := by kernel_rfl
theorem listZ_bd (L : List Int) (h : ∀ x ∈ L, 0 ≤ x ∧ x ≤ 255) (i : Nat) : 0 ≤ listZ L i ∧ listZ L i ≤ 255 := by
  unfold listZ
  by_cases hi : i < L.length
  · have : L.getD i 0 ∈ L := by simp [hi]
    exact h _ this
  · simp [List.getD, List.getElem?_eq_none (by omega : L.length ≤ i)]
/-- Bytes of a block that was laid. -/
theorem came_list {w : World} {b : Nat} (L : List Int) (hL : ∀ x ∈ L, 0 ≤ x ∧ x ≤ 255) (h : w.heap[b]? = some (.cells (L.map (.int .u8)).toArray 5 (0, 0))) : Came w (some ⟨b, 0, none⟩) L.length L.length (listZ L) := by
  refine ⟨Nat.le_refl _, listZ_bd L hL, .inr ⟨_, rfl, fun i hi => ?_⟩⟩
  rw [plain_add, Nat.zero_add]
  simp [World.cell?, h, listZ, hi]
end Go.Proofs.YtibihbclijpkjaaGreatDoor
namespace Go.Proofs.YtibihbclijpkjaaGreatDoor
open Go Go.RowKit
set_option linter.unusedSimpArgs false
set_option linter.unusedVariables false
open Pkt (Pk Cn Sl In By Is Ss As pkCells Gd KindsAt form isK isKind_any Small ck TT sumN Tx wpList_load_wanted)
/-- Two bytes of a text, laid. -/
def hiW (w : World) : World := (w.alloc (.cells #[.int .u8 104, .int .u8 105] 5)).freeze ⟨w.heap.size, 2, none⟩ 1
theorem hi_shape (w : World) : (w.alloc (.cells #[.int .u8 104, .int .u8 105] 5)).shape? w.heap.size = some (5, 2) := by
  have h := heap_alloc_new w (.cells #[.int .u8 104, .int .u8 105] 5)
  unfold World.shape?
  rw [h]
  rfl
theorem cv_new (w : World) : (convert 22 22 (.slice (some ⟨w.heap.size, 0, none⟩) 2 2)).run Tryz.prog (w.alloc (.cells #[.int .u8 104, .int .u8 105] 5)) = .ok (.slice (some ⟨w.heap.size, 0, none⟩) 2 2) (hiW w) := by
  unfold convert
  simp [go_sem, Tryz.underlying22]
  unfold markStringish
  simp [go_sem, hi_shape, hiW]
theorem hi_other (w : World) (k : Nat) (hk : k < w.heap.size) : (hiW w).heap[k]? = w.heap[k]? := by
  unfold hiW World.freeze
  rw [if_neg (by decide)]
  simp only [Array.getElem?_modify]
  rw [if_neg (by omega)]
  exact heap_alloc_old w _ hk
theorem hi_size (w : World) : (hiW w).heap.size = w.heap.size + 1 := by
  unfold hiW World.freeze
  rw [if_neg (by decide)]
  simp
theorem hi_new (w : World) : (hiW w).heap[w.heap.size]? = some (.cells #[.int .u8 104, .int .u8 105] 5 (2, 3)) := by
  unfold hiW World.freeze
  rw [if_neg (by decide)]
  simp only [Array.getElem?_modify, if_true]
  rw [heap_alloc_new]
  rfl
theorem hi_below (w : World) : Below w.heap.size w (hiW w) := by
  refine ⟨?_, ?_, ?_, by rw [hi_size]; omega, fun k hk => hi_other w k hk⟩
  all_goals
    unfold hiW World.freeze
    rw [if_neg (by decide)]
    rfl
theorem hi_by (w : World) : By (hiW w) ⟨some ⟨w.heap.size, 0, none⟩, 2, 2⟩ (listZ [104, 105]) := by
  refine ⟨Nat.le_refl _, listZ_bd _ (by simp), .inr ⟨_, _, rfl, fun i hi => ?_⟩⟩
  have h := hi_new w
  have hi2 : i < 2 := hi
  match i, hi2 with
  | 0, _ => simp [World.cell?, h, listZ]
  | 1, _ => simp [World.cell?, h, listZ]
end Go.Proofs.YtibihbclijpkjaaGreatDoor
namespace Go.Proofs.YtibihbclijpkjaaGreatDoor
open Go Go.RowKit
open Pkt (Pk Cn Sl In By Is Ss As pkCells Gd KindsAt form isK isKind_any Small ck TT sumN Tx wpList_load_wanted)
set_option linter.unusedSimpArgs false
set_option linter.unusedVariables false

set_option maxRecDepth 100000 in
set_option maxHeartbeats 4000000 in
theorem known_ok (E : EncOk) : KnownOk := by
  intro w hg
  obtain ⟨W1, hW1⟩ : ∃ W, W = hiW w := ⟨_, rfl⟩
  have B1 : Hid (Below w.heap.size w W1) := by show Below _ _ _; rw [hW1]; exact hi_below w
  have EN : Hid (Calls Tryz.prog 11 #[.agg (pkCells (pubK w.heap.size))] W1 fun e w' => ∃ a c, e = .returned (.tuple #[.slice a 11 c, .int .i64 0]) ∧ Came w' a 11 c bytesK ∧ Below W1.heap.size W1 w') := E W1 w.heap.size (hg.below B1.out) (by rw [hW1]; exact hi_by w)
  have HG : Hid (Gd w) := hg
  have cv := cv_new w
  rw [← hW1] at cv
  clear E hg hW1
  go_enter Tryz.func8, Tryz.ntmps8
  go_wp2_with (first | (refine wpList_build_to rfl 24 _ rfl #[.string ⟨#[97, 47, 98]⟩, .slice (some ⟨w.heap.size, 0, none⟩) 2 2, .int .i64 1, .bool false] (by kernel_rfl) ?_) | (refine wpList_build_to rfl 29 _ rfl (pkCells (pubK w.heap.size)) (built_k _) ?_) | fail)
  clear cv
  go_must (go_at_call 11)
  refine EN.out.mono ?_
  rintro e w2 ⟨a, c, rfl, hc, hb2⟩
  have B2 : Hid (Below w.heap.size w w2) := B1.out.trans (hb2.mono B1.out.size)
  have C2 : Hid (Came w2 a 11 c bytesK) := hc
  clear hc hb2 EN B1
  obtain ⟨W3, hW3⟩ : ∃ W, W = w2.alloc (.cells #[.int .u8 50, .int .u8 9, .int .u8 0, .int .u8 3, .int .u8 97, .int .u8 47, .int .u8 98, .int .u8 0, .int .u8 10, .int .u8 104, .int .u8 105] 5) := ⟨_, rfl⟩
  have bb3 : Below w2.heap.size w2 W3 := by rw [hW3]; exact (Below.refl _ _).alloc (Nat.le_refl _) _
  have BW3 : Hid (Below w.heap.size w W3) := B2.out.trans (bb3.mono B2.out.size)
  have L3 : Hid (Came W3 (some ⟨w2.heap.size, 0, none⟩) 11 11 bytesK) := came_list [50, 9, 0, 3, 97, 47, 98, 0, 10, 104, 105] (by simp) (by rw [hW3]; exact heap_alloc_new w2 _)
  have SA : Hid (Calls Tryz.prog 29 #[.slice a 11 c, .slice (some ⟨w2.heap.size, 0, none⟩) 11 11] W3 fun e w' => e = .returned (.bool true) ∧ w' = W3) := lsame_eq _ _ _ _ _ _ _ (came_below (B := 0) C2.out bb3) L3.out
  clear bb3 C2 L3 B2
  go_wp2_with (first | (go_at_call 12; refine (lnum_any _ _).mono ?_; rintro e w' ⟨rfl, hee⟩; obtain rfl := hee.symm; clear hee) | fail)
  rw [← hW3]
  clear hW3
  go_must (go_at_call 29)
  refine SA.out.mono ?_
  rintro e w' ⟨rfl, hee⟩
  obtain rfl := hee.symm
  clear hee SA
  obtain ⟨W4, hW4⟩ : ∃ W, W = W3.alloc (.cells #[.int .u8 192, .int .u8 128, .int .u8 0] 5) := ⟨_, rfl⟩
  have bW4 : Below W3.heap.size W3 W4 := by rw [hW4]; exact (Below.refl _ _).alloc (Nat.le_refl _) _
  have BW4 : Hid (Below w.heap.size w W4) := BW3.out.trans (bW4.mono BW3.out.size)
  have D1 : Hid (Calls Tryz.prog 14 #[.slice (some ⟨W3.heap.size, 0, none⟩) 3 3, .int .i64 9] W4 fun e w' => DecIs W4 w' e (.ok (blank 12) noCn 3)) := by
    show Calls _ _ _ _ _
    rw [← dec_one]
    exact decode_came _ _ _ _ 9 W4 (came_list [192, 128, 0] (by simp) (by rw [hW4]; exact heap_alloc_new W3 _)) (fun ad e => by cases e; exact ⟨_, _, rfl⟩) (by decide) (HG.out.below BW4.out)
  clear bW4
  go_wp2_with fail
  rw [← hW4]
  clear hW4
  go_must (go_at_call 14)
  refine D1.out.mono ?_
  rintro e w5 ⟨⟨q, rfl, hin, hal, hnx⟩, hbd⟩
  obtain ⟨W6, hW6⟩ : ∃ W, W = w5.alloc (.cells (pkCells q) 29) := ⟨_, rfl⟩
  have bst : Below w5.heap.size w5 W6 := by rw [hW6]; exact (Below.refl _ _).alloc (Nat.le_refl _) _
  have bdec : Below W4.heap.size W4 W6 := hbd.trans (bst.mono hbd.size)
  have BW6 : Hid (Below w.heap.size w W6) := BW4.out.trans (bdec.mono BW4.out.size)
  have hk : q.kind = 12 := by obtain ⟨s1, s2, s3, s4, s5, s6, e, _⟩ := hal; rw [e]; rfl
  have P6 : W6.heap[w5.heap.size]? = some (.cells (pkCells q) 29 (0, 0)) := by rw [hW6]; exact heap_alloc_new w5 _
  have K6 : Hid (W6.cell? ⟨w5.heap.size, 0, none⟩ = some (.int .i64 12)) := by show _ = _; simp [World.cell?, P6, pkCells, hk]
  clear hin hal hnx hk P6
  clear bst bdec hbd D1
  go_upto_region 5 with (first | (refine wpList_store_row rfl 29 _ _ rfl w5.heap.size (pkCells q) rfl rfl 29 _ (heap_alloc_new w5 _) pk_info rfl (pk_one _) ?_))
  rw [World.setRow_alloc_new, ← hW6]
  clear hW6
  obtain ⟨W7, hW7⟩ : ∃ W, W = W6.alloc (.cells #[.int .u8 192] 5) := ⟨_, rfl⟩
  have bW7 : Below W6.heap.size W6 W7 := by rw [hW7]; exact (Below.refl _ _).alloc (Nat.le_refl _) _
  have BW7 : Hid (Below w.heap.size w W7) := BW6.out.trans (bW7.mono BW6.out.size)
  have D2 : Hid (Calls Tryz.prog 14 #[.slice (some ⟨W6.heap.size, 0, none⟩) 1 1, .int .i64 9] W7 fun e w' => DecIs W7 w' e (.more)) := by
    show Calls _ _ _ _ _
    rw [← dec_two]
    exact decode_came _ _ _ _ 9 W7 (came_list [192] (by simp) (by rw [hW7]; exact heap_alloc_new W6 _)) (fun ad e => by cases e; exact ⟨_, _, rfl⟩) (by decide) (HG.out.below BW7.out)
  have bW7' := bW7
  clear bW7
  go_wp2_with fail
  rw [← hW7]
  clear hW7
  go_must (go_at_call 14)
  refine D2.out.mono ?_
  rintro e w8 ⟨rfl, hbd⟩
  obtain ⟨W9, hW9⟩ : ∃ W, W = w8.alloc (.cells (pkCells (blank 0)) 29) := ⟨_, rfl⟩
  have bst : Below w8.heap.size w8 W9 := by rw [hW9]; exact (Below.refl _ _).alloc (Nat.le_refl _) _
  have bdec : Below W7.heap.size W7 W9 := hbd.trans (bst.mono hbd.size)
  have BW9 : Hid (Below w.heap.size w W9) := BW7.out.trans (bdec.mono BW7.out.size)
  have K9 : Hid (W9.cell? ⟨w5.heap.size, 0, none⟩ = some (.int .i64 12)) := cell_later bdec (cell_later bW7' K6.out)
  clear bst bdec hbd D2 bW7'
  go_upto_region 6 with (first | (refine wpList_store_row rfl 29 _ _ rfl w8.heap.size (pkCells (blank 0)) rfl rfl 29 _ (heap_alloc_new w8 _) pk_info rfl (pk_one _) ?_))
  rw [World.setRow_alloc_new, ← hW9]
  clear hW9
  obtain ⟨W10, hW10⟩ : ∃ W, W = W9.alloc (.cells #[.int .u8 64, .int .u8 3, .int .u8 0, .int .u8 10, .int .u8 0] 5) := ⟨_, rfl⟩
  have bW10 : Below W9.heap.size W9 W10 := by rw [hW10]; exact (Below.refl _ _).alloc (Nat.le_refl _) _
  have BW10 : Hid (Below w.heap.size w W10) := BW9.out.trans (bW10.mono BW9.out.size)
  have D3 : Hid (Calls Tryz.prog 14 #[.slice (some ⟨W9.heap.size, 0, none⟩) 5 5, .int .i64 9] W10 fun e w' => DecIs W10 w' e (.fault (4, 15))) := by
    show Calls _ _ _ _ _
    rw [← dec_three]
    exact decode_came _ _ _ _ 9 W10 (came_list [64, 3, 0, 10, 0] (by simp) (by rw [hW10]; exact heap_alloc_new W9 _)) (fun ad e => by cases e; exact ⟨_, _, rfl⟩) (by decide) (HG.out.below BW10.out)
  have bW10' := bW10
  clear bW10
  go_wp2_with fail
  rw [← hW10]
  clear hW10
  go_must (go_at_call 14)
  refine D3.out.mono ?_
  rintro e w11 ⟨⟨gg, rfl, hgg⟩, hbd⟩
  obtain ⟨W12, hW12⟩ : ∃ W, W = w11.alloc (.cells (pkCells (blank 0)) 29) := ⟨_, rfl⟩
  have bst : Below w11.heap.size w11 W12 := by rw [hW12]; exact (Below.refl _ _).alloc (Nat.le_refl _) _
  have bdec : Below W10.heap.size W10 W12 := hbd.trans (bst.mono hbd.size)
  have BW12 : Hid (Below w.heap.size w W12) := BW10.out.trans (bdec.mono BW10.out.size)
  have K12 : Hid (W12.cell? ⟨w5.heap.size, 0, none⟩ = some (.int .i64 12)) := cell_later bdec (cell_later bW10' K9.out)
  have TF : Hid (Calls Tryz.prog 18 #[.iface 78 (.pointer (some ⟨gg, 0, none⟩))] W12 fun e w' => e = .returned (.tuple #[.agg #[.int .i64 4, .int .i64 15], .bool true]) ∧ Below W12.heap.size W12 w') := told_fault gg 4 15 W12 ((bst.block _ (lt_of_block hgg)).trans hgg) (by decide)
  clear bst bdec hbd D3 bW10' hgg
  go_upto_region 7 with (first | (refine wpList_store_row rfl 29 _ _ rfl w11.heap.size (pkCells (blank 0)) rfl rfl 29 _ (heap_alloc_new w11 _) pk_info rfl (pk_one _) ?_))
  rw [World.setRow_alloc_new, ← hW12]
  clear hW12
  go_wp2_with fail
  go_must (go_at_call 18)
  refine TF.out.mono ?_
  rintro e w13 ⟨rfl, hb13⟩
  obtain ⟨W14, hW14⟩ : ∃ W, W = w13.alloc (.cells #[.int .i64 4, .int .i64 15] 45) := ⟨_, rfl⟩
  have b14 : Below w13.heap.size w13 W14 := by rw [hW14]; exact (Below.refl _ _).alloc (Nat.le_refl _) _
  have b24 : Below W12.heap.size W12 W14 := hb13.trans (b14.mono hb13.size)
  have B14 : Hid (Below w.heap.size w W14) := BW12.out.trans (b24.mono BW12.out.size)
  have k0 : W14.cell? ⟨w5.heap.size, 0, none⟩ = some (.int .i64 12) := cell_later b24 K12.out
  have F14 : W14.heap[w13.heap.size]? = some (.cells #[.int .i64 4, .int .i64 15] 45 (0, 0)) := by rw [hW14]; exact heap_alloc_new w13 _
  have m0 : W14.cell? ⟨w13.heap.size, 0, none⟩ = some (.int .i64 4) := by simp [World.cell?, F14]
  have m1 : W14.cell? ⟨w13.heap.size, 1, none⟩ = some (.int .i64 15) := by simp [World.cell?, F14]
  clear hb13 b14 b24 TF F14
  go_upto_region 8 with fail
  rw [← hW14]
  clear hW14
  go_wp2
  go_ret
  exact ⟨rfl, B14.out⟩
end Go.Proofs.YtibihbclijpkjaaGreatDoor
