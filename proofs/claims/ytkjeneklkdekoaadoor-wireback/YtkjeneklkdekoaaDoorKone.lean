import Derived.Test.YtkjeneklkdekoaaDoorGthree
import Derived.Test.YtkjeneklkdekoaaDoorIs
namespace Go.Proofs.YtkjeneklkdekoaaDoor
open Go Go.RowKit
set_option linter.unusedSimpArgs false
set_option linter.unusedVariables false

/-- The bytes of a short list. -/
def lZ (l : List Int) : Nat → Int := fun i => l.getD i 0
theorem lZ_bd (l : List Int) (h : ∀ x ∈ l, 0 ≤ x ∧ x ≤ 255) (i : Nat) : 0 ≤ lZ l i ∧ lZ l i ≤ 255 := by
  unfold lZ
  rw [List.getD_eq_getElem?_getD]
  cases e : l[i]? with
  | none => simp
  | some x => exact h x (List.mem_of_getElem? e)

theorem chk_a : chk ⟨#[97]⟩ = (0, 0) := by decide +kernel
theorem chk_bad : chk ⟨#[97, 192, 128]⟩ = (1, 13) := by decide +kernel
theorem chk_e : chk ⟨#[195, 169]⟩ = (0, 0) := by decide +kernel
theorem str_a : strZ (fun i => lZ [0, 1, 97, 7] (0 + 2 + i)) 1 = ⟨#[97]⟩ := by decide +kernel
theorem len_two : lenZ 2 (lZ [128, 0]) = (0, 2, 0) := by decide +kernel

theorem as_below (e t : Addr) (old : Value) (w : World) (hg : w.cell? ⟨0, 0, none⟩ = some (.iface 83 (.agg #[.pointer (some ⟨1, 31, none⟩)]))) (ht0 : w.cell? t = some old) (hf0 : w.frozen? t = false) (htn : t.spot = none) :
    Calls Tryd.prog 27 #[.iface 48 (.pointer (some e)), .iface 50 (.pointer (some t))] w fun ev w' => ev = .returned (.bool true) ∧ w'.cell? t = some (.pointer (some e)) ∧ w.grownBy w' (some t.block) := by
  refine (as_hit e t old w hg ht0 hf0).mono ?_
  rintro ev w' ⟨rfl, rfl⟩
  obtain ⟨tb, to, ts⟩ := t
  simp only at htn
  subst htn
  refine ⟨rfl, ?_, gb_set (gb_alloc (gb_alloc (gb_alloc (gb_alloc (gb_refl _ _) _) _) _) _) _ _⟩
  refine World.cell?_setCell_same _ _ _ (u := old) ?_
  exact cell_later ((((((Below.refl _ _).alloc (Nat.le_refl _) _).alloc (by simp) _).alloc (by simp; omega) _).alloc (by simp; omega) _)) ht0

theorem below_of_gb {w w' : World} {B rb : Nat} (h : w.grownBy w' (some rb)) (hr : B ≤ rb) (hB : B ≤ w.heap.size) : Below B w w' := ⟨h.os, h.tape, h.output, h.size, fun k hk => h.block k (by omega) (by simp; omega)⟩

theorem facts4 (w : World) (a b c : Value) :
    ((w.alloc (.cells #[a] 48)).alloc (.cells #[b, c] 52)).drew.cell? ⟨w.heap.size, 0, none⟩ = some a ∧ ((w.alloc (.cells #[a] 48)).alloc (.cells #[b, c] 52)).drew.frozen? ⟨w.heap.size, 0, none⟩ = false ∧
    ((w.alloc (.cells #[a] 48)).alloc (.cells #[b, c] 52)).drew.cell? ⟨w.heap.size + 1, 0, none⟩ = some b ∧ ((w.alloc (.cells #[a] 48)).alloc (.cells #[b, c] 52)).drew.cell? ⟨w.heap.size + 1, 1, none⟩ = some c ∧ w.heap.size + 1 < ((w.alloc (.cells #[a] 48)).alloc (.cells #[b, c] 52)).drew.heap.size := by
  refine ⟨?_, ?_, ?_, ?_, ?_⟩
  all_goals simp [go_sem]

theorem nil_came (w : World) (z : Nat → Int) (hz : ∀ i, 0 ≤ z i ∧ z i ≤ 255) : Came w none 0 0 z := ⟨Nat.le_refl _, hz, .inl ⟨rfl, rfl, rfl⟩⟩

/-- New memory with these bytes. -/
def MadeZ (w w' : World) (g n cp : Nat) (z : Nat → Int) : Prop := Came w' (some ⟨g, 0, none⟩) n cp z ∧ Below w.heap.size w w'

theorem made_z {w w' : World} {e : Ending} {n : Nat} {xs : List Value} {z : Nat → Int} (h : Made w w' e n xs) (hx : xs = cellsOf z n) (hz : ∀ i, 0 ≤ z i ∧ z i ≤ 255) : ∃ g cp, e = .returned (.slice (some ⟨g, 0, none⟩) n cp) ∧ MadeZ w w' g n cp z := by
  obtain ⟨g, cp, rfl, ho, hb⟩ := h
  rw [hx] at ho
  exact ⟨g, cp, rfl, made_came (w := w) ho hz, hb⟩

theorem pt_e (w : World) : Calls Tryd.prog 18 #[.slice none 0 0, .string ⟨#[195, 169]⟩] w fun e w' => ∃ g cp, e = .returned (.tuple #[.slice (some ⟨g, 0, none⟩) 4 cp, .int .i64 0]) ∧ MadeZ w w' g 4 cp (lZ [0, 2, 195, 169]) := by
  refine (putText_ok none 0 0 (lZ []) ⟨#[195, 169]⟩ w (nil_came _ _ (lZ_bd _ (by decide))) (by decide) (by decide) (by rw [chk_e])).mono ?_
  rintro e w' ⟨g, cp, rfl, ho, hb⟩
  refine ⟨g, cp, rfl, made_came (w := w) (base := w.heap.size) ?_ (lZ_bd _ (by decide)), hb⟩
  exact ho
theorem pn_300 (w : World) (ad : Addr) (k : Nat) (h : Came w (some ad) 1 k (lZ [5])) : Calls Tryd.prog 9 #[.slice (some ad) 1 k, .int .i64 300] w fun e w' => ∃ g cp, e = .returned (.slice (some ⟨g, 0, none⟩) 3 cp) ∧ MadeZ w w' g 3 cp (lZ [5, 1, 44]) :=
  (putNumber_any (some ad) 1 k (lZ [5]) 300 w h (by decide)).mono fun e w' h => made_z h rfl (lZ_bd _ (by decide))
theorem pl_128 (w : World) : Calls Tryd.prog 11 #[.slice none 0 0, .int .i64 128] w fun e w' => ∃ g cp, e = .returned (.slice (some ⟨g, 0, none⟩) 2 cp) ∧ MadeZ w w' g 2 cp (lZ [128, 1]) :=
  (putLength_in none 0 0 (lZ []) 128 (by decide) (by decide) w (nil_came _ _ (lZ_bd _ (by decide))) (by decide)).mono fun e w' h => made_z h rfl (lZ_bd _ (by decide))
theorem len_128 (w : World) (ad : Addr) (k : Nat) (h : Came w (some ad) 2 k (lZ [128, 0])) : Calls Tryd.prog 25 #[.slice (some ad) 2 k] w fun e w' => e = .returned (.tuple #[.int .i64 0, .int .i64 2, .int .i64 0]) ∧ w' = w := by
  have t := wlen_any (some ad) 2 k (lZ [128, 0]) w (came_byt h) (by decide)
  rw [len_two] at t
  exact t
theorem same_z (w : World) (a b : Addr) (n k k' : Nat) (z : Nat → Int) (h : Came w (some a) n k z) (h' : Came w (some b) n k' z) : Calls Tryd.prog 21 #[.slice (some a) n k, .slice (some b) n k'] w fun e w' => e = .returned (.bool true) ∧ w' = w := by
  have t := same_any (some a) (some b) n k n k' z z w h h'
  rw [beq_self_eq_true] at t
  exact t
set_option maxHeartbeats 400000 in
theorem num_any (n : Int) (w : World) :
    Calls Tryd.prog 20 #[.int .i64 n] w fun e w' => e = .returned (.int .i64 n) ∧ w' = w := by
  go_enter Tryd.func20, Tryd.ntmps20
  go_wp2
  go_ret
  exact ⟨rfl, rfl⟩
theorem chk_lit (w : World) : Calls Tryd.prog 24 #[.string ⟨#[97, 192, 128]⟩] w fun e w' => e = .returned (.tuple #[.int .i64 1, .int .i64 13]) ∧ Below w.heap.size w w' := by
  refine (chk_any ⟨#[97, 192, 128]⟩ w).mono ?_
  rw [chk_bad]
  rintro e w' ⟨rfl, hb, _⟩
  exact ⟨rfl, hb⟩

/-- What the package variable of errors holds. -/
def GlobalAt (w : World) : Prop := w.cell? ⟨0, 0, none⟩ = some (.iface 83 (.agg #[.pointer (some ⟨1, 31, none⟩)]))

set_option maxRecDepth 100000 in
set_option maxHeartbeats 4000000 in
theorem known_any (w : World) (hg : GlobalAt w) :
    Calls Tryd.prog 6 #[] w fun e w' => e = .returned (.bool true) ∧ Below w.heap.size w w' := by
  have HG : Hid (GlobalAt w) := hg
  have hgl : Hid (0 < w.heap.size) := World.block_lt_of_cell? w ⟨0, 0, none⟩ hg
  clear hg
  have b0 : Below w.heap.size w (w.alloc (.cells #[.int .u8 0, .int .u8 1, .int .u8 97, .int .u8 7] 5)) := (Below.refl _ _).alloc (Nat.le_refl _) _
  have R0 : Hid (Calls Tryd.prog 7 #[.slice (some ⟨w.heap.size, 0, none⟩) 4 4] (w.alloc (.cells #[.int .u8 0, .int .u8 1, .int .u8 97, .int .u8 7] 5)) fun e w' => NewRd (w.alloc (.cells #[.int .u8 0, .int .u8 1, .int .u8 97, .int .u8 7] 5)) w' e 4 (lZ [0, 1, 97, 7])) :=
    read_some ⟨w.heap.size, 0, none⟩ 4 4 (lZ [0, 1, 97, 7]) _ (new_came w 4 (lZ [0, 1, 97, 7]) _ rfl (lZ_bd _ (by decide))) (by decide)
  have B0 : Hid (Below w.heap.size w (w.alloc (.cells #[.int .u8 0, .int .u8 1, .int .u8 97, .int .u8 7] 5))) := b0
  clear b0
  go_enter Tryd.func6, Tryd.ntmps6
  go_wp2_with fail
  go_must (go_at_call 7)
  refine R0.out.mono ?_
  rintro e w1 ⟨rb, g, cp, rfl, hR1, hO1, hne, hcp, hg1, hrb1, hb1⟩
  have hbw1 : Below w.heap.size w w1 := B0.out.trans (hb1.mono (by simp))
  have hrbw : w.heap.size ≤ rb := by simp at hrb1; omega
  have H1 : Hid (RdAt w1 rb (.slice (some ⟨g, 0, none⟩) 4 cp) ((0 : Nat) : Int) 0 0 ∧ Own w1 g 4 (lZ [0, 1, 97, 7]) ∧ g ≠ rb ∧ 4 ≤ cp ∧ w.heap.size ≤ rb ∧ Below w.heap.size w w1) := ⟨hR1, hO1, hne, hcp, hrbw, hbw1⟩
  clear hR1 hO1 hne hcp hg1 hrb1 hb1 hbw1 hrbw
  go_wp2_with fail
  go_must (go_at_call 23)
  have T0 : Hid (Calls Tryd.prog 23 #[.pointer (some ⟨rb, 0, none⟩)] w1 fun e w' => e = .returned (.string ⟨#[97]⟩) ∧ RdAt w' rb (.slice (some ⟨g, 0, none⟩) 4 cp) ((3 : Nat) : Int) 0 0 ∧ w1.grownBy w' (some rb)) := by
    have h := text_ok rb g 4 cp 0 1 0 (lZ [0, 1, 97, 7]) w1 H1.out.1 H1.out.2.1 H1.out.2.2.2.1 (by decide) H1.out.2.2.1 (by decide) (by decide) (by rw [str_a, chk_a])
    rw [str_a] at h
    exact h
  refine T0.out.mono ?_
  rintro e w2 ⟨rfl, hR2, hg2⟩
  clear T0
  have H2 : Hid (RdAt w2 rb (.slice (some ⟨g, 0, none⟩) 4 cp) ((3 : Nat) : Int) 0 0 ∧ w1.grownBy w2 (some rb)) := ⟨hR2, hg2⟩
  clear hR2 hg2
  go_wp2_with fail
  go_must (go_at_call 14)
  refine (at_any rb _ _ _ _ w2 H2.out.1).mono ?_
  rintro e w2' ⟨rfl, rfl⟩
  go_wp2_with fail
  go_must (go_at_call 17)
  refine (err_nil rb _ _ _ _ H2.out.1).mono ?_
  rintro e w2'' ⟨rfl, rfl⟩
  go_wp2_with fail
  go_must (go_at_call 26)
  refine (end_rest rb g 4 cp 3 0 _ H2.out.1 (by decide) H1.out.2.2.2.1 (by decide)).mono ?_
  rintro e w3 ⟨rfl, hR3, hg3⟩
  have hbw3 : Below w.heap.size w w3 := H1.out.2.2.2.2.2.trans (below_of_gb (gb_trans H2.out.2 hg3) H1.out.2.2.2.2.1 H1.out.2.2.2.2.2.size)
  have H3 : Hid (RdAt w3 rb (.slice (some ⟨g, 0, none⟩) 4 cp) ((3 : Nat) : Int) ((3 : Nat) : Int) 15 ∧ Below w.heap.size w w3 ∧ w.heap.size ≤ rb) := ⟨hR3, hbw3, H1.out.2.2.2.2.1⟩
  clear hR3 hg3 hbw3 H2 H1 R0 B0
  have b3 : Below w3.heap.size w3 (w3.alloc (.cells #[.pointer none] 48)) := (Below.refl _ _).alloc (Nat.le_refl _) _
  have H4 : Hid (RdAt (w3.alloc (.cells #[.pointer none] 48)) rb (.slice (some ⟨g, 0, none⟩) 4 cp) ((3 : Nat) : Int) ((3 : Nat) : Int) 15 ∧ Below w.heap.size w (w3.alloc (.cells #[.pointer none] 48))) := ⟨H3.out.1.kept b3, H3.out.2.1.trans (b3.mono H3.out.2.1.size)⟩
  clear b3
  go_wp2_with fail
  go_must (go_at_call 17)
  refine (err_some rb _ _ _ _ _ H4.out.1 (by decide)).mono ?_
  rintro e w4 ⟨rfl, rfl⟩
  have F4 := facts4 w3 (.pointer none) (.int .i64 3) (.int .i64 15)
  have RD4 : RdAt ((w3.alloc (.cells #[.pointer none] 48)).alloc (.cells #[.int .i64 3, .int .i64 15] 52)).drew rb (.slice (some ⟨g, 0, none⟩) 4 cp) 3 3 15 := H4.out.1.kept (((Below.refl _ _).alloc (Nat.le_refl _) _).drew)
  have BW4 : Below w.heap.size w ((w3.alloc (.cells #[.pointer none] 48)).alloc (.cells #[.int .i64 3, .int .i64 15] 52)).drew := (H4.out.2.alloc H4.out.2.size _).drew
  have X4 : Hid (RdAt ((w3.alloc (.cells #[.pointer none] 48)).alloc (.cells #[.int .i64 3, .int .i64 15] 52)).drew rb (.slice (some ⟨g, 0, none⟩) 4 cp) 3 3 15 ∧ Below w.heap.size w ((w3.alloc (.cells #[.pointer none] 48)).alloc (.cells #[.int .i64 3, .int .i64 15] 52)).drew ∧ w.heap.size ≤ w3.heap.size ∧ rb < w3.heap.size ∧ w.heap.size ≤ rb) := ⟨RD4, BW4, H3.out.2.1.size, lt_of_block H3.out.1, H3.out.2.2⟩
  have F4H : Hid (((w3.alloc (.cells #[.pointer none] 48)).alloc (.cells #[.int .i64 3, .int .i64 15] 52)).drew.cell? ⟨w3.heap.size, 0, none⟩ = some (.pointer none) ∧ ((w3.alloc (.cells #[.pointer none] 48)).alloc (.cells #[.int .i64 3, .int .i64 15] 52)).drew.frozen? ⟨w3.heap.size, 0, none⟩ = false ∧
    ((w3.alloc (.cells #[.pointer none] 48)).alloc (.cells #[.int .i64 3, .int .i64 15] 52)).drew.cell? ⟨w3.heap.size + 1, 0, none⟩ = some (.int .i64 3) ∧ ((w3.alloc (.cells #[.pointer none] 48)).alloc (.cells #[.int .i64 3, .int .i64 15] 52)).drew.cell? ⟨w3.heap.size + 1, 1, none⟩ = some (.int .i64 15) ∧ w3.heap.size + 1 < ((w3.alloc (.cells #[.pointer none] 48)).alloc (.cells #[.int .i64 3, .int .i64 15] 52)).drew.heap.size) := F4
  clear F4 RD4 BW4 H4 H3
  go_wp2_with fail
  go_must (go_at_call 27)
  refine (as_below ⟨w3.heap.size + 1, 0, none⟩ ⟨w3.heap.size, 0, none⟩ (.pointer none) _ ?_ ?_ ?_ rfl).mono ?_
  · exact cell_later X4.out.2.1 HG.out
  · exact F4H.out.1
  · exact F4H.out.2.1
  rintro e w5 ⟨rfl, ht5, hg5⟩
  have hne5 : ∀ k, w3.heap.size ≠ k → some k ≠ some w3.heap.size := fun k h q => h (Option.some.inj q).symm
  have e0 : w5.cell? ⟨w3.heap.size + 1, 0, none⟩ = some (.int .i64 3) := hg5.cell F4H.out.2.2.1 (by simp)
  have e1 : w5.cell? ⟨w3.heap.size + 1, 1, none⟩ = some (.int .i64 15) := hg5.cell F4H.out.2.2.2.1 (by simp)
  have X5 : Hid (RdAt w5 rb (.slice (some ⟨g, 0, none⟩) 4 cp) 3 3 15 ∧ Below w.heap.size w w5 ∧ w.heap.size ≤ rb) := ⟨X4.out.1.grown hg5 (by have := X4.out.2.2.2.1; simp; omega), X4.out.2.1.trans (below_of_gb hg5 X4.out.2.2.1 X4.out.2.1.size), X4.out.2.2.2.2⟩
  clear hg5 X4 F4H hne5
  go_wp2_with fail
  go_must (go_at_call 17)
  refine (err_some rb _ _ _ _ _ X5.out.1 (by decide)).mono ?_
  rintro e w6 ⟨rfl, rfl⟩
  have bb6 : Below w5.heap.size w5 (w5.alloc (.cells #[.int .i64 3, .int .i64 15] 52)).drew := ((Below.refl _ _).alloc (Nat.le_refl _) _).drew
  have q6 : (w5.alloc (.cells #[.int .i64 3, .int .i64 15] 52)).drew.cell? ⟨w5.heap.size, 0 + 1, none⟩ = some (.int .i64 15) := by simp [go_sem]
  have X6 : Hid (RdAt (w5.alloc (.cells #[.int .i64 3, .int .i64 15] 52)).drew rb (.slice (some ⟨g, 0, none⟩) 4 cp) 3 3 15 ∧ Below w.heap.size w (w5.alloc (.cells #[.int .i64 3, .int .i64 15] 52)).drew ∧ w.heap.size ≤ rb) := ⟨X5.out.1.kept bb6, X5.out.2.1.trans (bb6.mono X5.out.2.1.size), X5.out.2.2⟩
  have Q6 : Hid ((w5.alloc (.cells #[.int .i64 3, .int .i64 15] 52)).drew.cell? ⟨w5.heap.size, 0 + 1, none⟩ = some (.int .i64 15)) := q6
  clear bb6 q6 ht5 e0 e1 X5
  go_wp2_with fail
  go_must (go_at_call 28)
  refine (is_hit w5.heap.size 0 15 _ ?_).mono ?_
  · exact Q6.out
  rintro e w7 ⟨rfl, rfl⟩
  clear Q6
  go_wp2_with fail
  go_must (go_at_call 29)
  refine (byte_bad rb _ _ _ _ _ X6.out.1 (by decide)).mono ?_
  rintro e w8 ⟨rfl, hR8, hg8⟩
  have X8 : Hid (RdAt w8 rb (.slice (some ⟨g, 0, none⟩) 4 cp) 3 3 15 ∧ Below w.heap.size w w8) := ⟨hR8, X6.out.2.1.trans (below_of_gb hg8 X6.out.2.2 X6.out.2.1.size)⟩
  clear hR8 hg8 X6
  go_wp2_with fail
  go_must (go_at_call 14)
  refine (at_any rb _ _ _ _ w8 X8.out.1).mono ?_
  rintro e w9 ⟨rfl, rfl⟩
  have Y9 : Hid (Below w.heap.size w w9) := X8.out.2
  clear X8 hgl HG
  go_wp2_with fail
  go_must (go_at_call 24)
  refine (chk_lit _).mono ?_
  rintro e w10 ⟨rfl, hb10⟩
  have Y10 : Hid (Below w.heap.size w w10) := Y9.out.trans (hb10.mono Y9.out.size)
  clear hb10 Y9
  go_wp2_with fail
  go_must (go_at_call 25)
  refine (len_128 _ ⟨w10.heap.size, 0, none⟩ 2 (new_came w10 2 (lZ [128, 0]) _ rfl (lZ_bd _ (by decide)))).mono ?_
  rintro e w11 ⟨rfl, rfl⟩
  have Y11 : Hid (Below w.heap.size w (w10.alloc (.cells #[.int .u8 128, .int .u8 0] 5))) := Y10.out.alloc Y10.out.size _
  clear Y10
  go_wp2_with fail
  go_must (go_at_call 18)
  refine (pt_e _).mono ?_
  rintro e w12 ⟨g1, cp1, rfl, hm12⟩
  have Y12 : Hid (Below w.heap.size w w12 ∧ Came w12 (some ⟨g1, 0, none⟩) 4 cp1 (lZ [0, 2, 195, 169])) := ⟨Y11.out.trans (hm12.2.mono Y11.out.size), hm12.1⟩
  clear hm12 Y11
  go_wp2_with fail
  go_must (go_at_call 20)
  refine (num_any _ _).mono ?_
  rintro e w12a ⟨rfl, rfl⟩
  go_wp2_with fail
  go_must (go_at_call 20)
  refine (num_any _ _).mono ?_
  rintro e w12b ⟨rfl, rfl⟩
  go_wp2_with fail
  go_must (go_at_call 20)
  refine (num_any _ _).mono ?_
  rintro e w12c ⟨rfl, rfl⟩
  go_wp2_with fail
  go_must (go_at_call 21)
  have bb13 : Below w12c.heap.size w12c (w12c.alloc (.cells #[.int .u8 0, .int .u8 2, .int .u8 195, .int .u8 169] 5)) := (Below.refl _ _).alloc (Nat.le_refl _) _
  refine (same_z _ ⟨g1, 0, none⟩ ⟨w12c.heap.size, 0, none⟩ 4 cp1 4 (lZ [0, 2, 195, 169]) (came_below (B := 0) Y12.out.2 bb13) (new_came w12c 4 (lZ [0, 2, 195, 169]) _ rfl (lZ_bd _ (by decide)))).mono ?_
  rintro e w13 ⟨rfl, rfl⟩
  have Y13 : Hid (Below w.heap.size w (w12c.alloc (.cells #[.int .u8 0, .int .u8 2, .int .u8 195, .int .u8 169] 5))) := Y12.out.1.trans (bb13.mono Y12.out.1.size)
  clear bb13 Y12
  have c14 : Came ((w12c.alloc (.cells #[.int .u8 0, .int .u8 2, .int .u8 195, .int .u8 169] 5)).alloc (.cells #[.int .u8 5] 5)) (some ⟨w12c.heap.size + 1, 0, none⟩) 1 1 (lZ [5]) := by
    have h := new_came (w12c.alloc (.cells #[.int .u8 0, .int .u8 2, .int .u8 195, .int .u8 169] 5)) 1 (lZ [5]) #[.int .u8 5] rfl (lZ_bd _ (by decide))
    have e : (w12c.alloc (.cells #[.int .u8 0, .int .u8 2, .int .u8 195, .int .u8 169] 5)).heap.size = w12c.heap.size + 1 := by simp
    rw [e] at h
    exact h
  have C14 : Hid (Came ((w12c.alloc (.cells #[.int .u8 0, .int .u8 2, .int .u8 195, .int .u8 169] 5)).alloc (.cells #[.int .u8 5] 5)) (some ⟨w12c.heap.size + 1, 0, none⟩) 1 1 (lZ [5])) := c14
  have Y13b : Hid (Below w.heap.size w ((w12c.alloc (.cells #[.int .u8 0, .int .u8 2, .int .u8 195, .int .u8 169] 5)).alloc (.cells #[.int .u8 5] 5))) := Y13.out.alloc Y13.out.size _
  clear c14 Y13
  go_wp2_with fail
  go_must (go_at_call 9)
  refine (pn_300 _ _ _ C14.out).mono ?_
  rintro e w14 ⟨g2, cp2, rfl, hm14⟩
  have Y14 : Hid (Below w.heap.size w w14 ∧ Came w14 (some ⟨g2, 0, none⟩) 3 cp2 (lZ [5, 1, 44])) := ⟨Y13b.out.trans (hm14.2.mono Y13b.out.size), hm14.1⟩
  clear hm14 Y13b C14
  go_wp2_with fail
  go_must (go_at_call 21)
  have bb15 : Below w14.heap.size w14 (w14.alloc (.cells #[.int .u8 5, .int .u8 1, .int .u8 44] 5)) := (Below.refl _ _).alloc (Nat.le_refl _) _
  refine (same_z _ ⟨g2, 0, none⟩ ⟨w14.heap.size, 0, none⟩ 3 cp2 3 (lZ [5, 1, 44]) (came_below (B := 0) Y14.out.2 bb15) (new_came w14 3 (lZ [5, 1, 44]) _ rfl (lZ_bd _ (by decide)))).mono ?_
  rintro e w15 ⟨rfl, rfl⟩
  have Y15 : Hid (Below w.heap.size w (w14.alloc (.cells #[.int .u8 5, .int .u8 1, .int .u8 44] 5))) := Y14.out.1.trans (bb15.mono Y14.out.1.size)
  clear bb15 Y14
  go_wp2_with fail
  go_must (go_at_call 11)
  refine (pl_128 _).mono ?_
  rintro e w16 ⟨g3, cp3, rfl, hm16⟩
  have Y16 : Hid (Below w.heap.size w w16 ∧ Came w16 (some ⟨g3, 0, none⟩) 2 cp3 (lZ [128, 1])) := ⟨Y15.out.trans (hm16.2.mono Y15.out.size), hm16.1⟩
  clear hm16 Y15
  go_wp2_with fail
  go_must (go_at_call 21)
  have bb17 : Below w16.heap.size w16 (w16.alloc (.cells #[.int .u8 128, .int .u8 1] 5)) := (Below.refl _ _).alloc (Nat.le_refl _) _
  refine (same_z _ ⟨g3, 0, none⟩ ⟨w16.heap.size, 0, none⟩ 2 cp3 2 (lZ [128, 1]) (came_below (B := 0) Y16.out.2 bb17) (new_came w16 2 (lZ [128, 1]) _ rfl (lZ_bd _ (by decide)))).mono ?_
  rintro e w17 ⟨rfl, rfl⟩
  have Y17 : Hid (Below w.heap.size w (w16.alloc (.cells #[.int .u8 128, .int .u8 1] 5))) := Y16.out.1.trans (bb17.mono Y16.out.1.size)
  clear bb17 Y16
  go_wp2
  go_ret
  exact ⟨rfl, Y17.out⟩
end Go.Proofs.YtkjeneklkdekoaaDoor
