import Derived.Test.YtibihbclijpkjaaGreatDoorFrq
import Derived.Deep.CutRange
namespace Go.Proofs.YtibihbclijpkjaaGreatDoor
open Go Go.RowKit
open Pkt (Pk Cn Sl In By Is Ss As pkCells Gd KindsAt Small)
set_option linter.unusedSimpArgs false
set_option linter.unusedVariables false

theorem came_by {w : World} {a0 : Option Addr} {l0 k0 : Nat} {Z : Nat → Int} (h : Came w a0 l0 k0 Z) (hp : Plain a0) : By w ⟨a0, l0, k0⟩ Z := by
  refine ⟨h.1, h.2.1, ?_⟩
  rcases h.2.2 with ⟨_, h0, _⟩ | ⟨ad, e, hc⟩
  · exact .inl h0
  · obtain ⟨g, off, rfl⟩ := hp ad e
    exact .inr ⟨g, off, e, fun i hi => by have := hc i hi; rw [plain_add] at this; exact this⟩
theorem hs_new {w : World} {hb B : Nat} {no : Nat → Prop} (h : w.heap[hb]? = some (.cells #[.slice none 0 0, .int .i64 0, .int .i64 0, .bool false] 57 (0, 0))) : HS w hb B none no [] 0 0 :=
  ⟨.slice none 0 0, [], h, World.ownsRow_nil _ _ _ _, rfl, trivial⟩
theorem fs_start {w : World} {fb : Nat} {most : Int} (B : Nat) (z : Nat → Int) (h : w.heap[fb]? = some (.cells (frCells most (.slice none 0 0) 0 0 0 0) 88 (0, 0))) : FS w fb most B none 0 z 0 :=
  ⟨.slice none 0 0, 0, fun _ => 0, 0, 0, 0, ⟨h, World.ownsRow_nil _ _ _ _, Nat.le_refl _⟩, rfl, rfl, rfl, fun i hi => by omega, fun i => by simp, Int.le_refl _⟩
theorem yc_start {w : World} {gb yb : Nat} {top : Int} (B : Nat) (Z : Nat → Int) (T : Nat) (h1 : w.heap[gb]? = some (.cells (frCells top (.slice none 0 0) 0 0 0 0) 88 (0, 0))) (h2 : w.heap[yb]? = some (.cells #[.slice none 0 0, .int .i64 0, .int .i64 0, .bool false] 57 (0, 0))) : YC w gb yb B top Z T 0 false 0 [] 0 0 :=
  ⟨Nat.le_refl _, Rn.nil _, none, none, hs_new h2, .inl ⟨fs_start B _ h1, fun q => by cases q⟩⟩
theorem YC.any {w : World} {gb yb B : Nat} {top : Int} {Z : Nat → Int} {T N : Nat} {fin : Bool} {P : Nat} {L : List (Pk × Cn)} {la le : Int} (h : YC w gb yb B top Z T N fin P L la le) : YC w gb yb B top Z T N false P L la le := by
  obtain ⟨rg, ry, hH, hst⟩ := h.ex
  refine ⟨h.pn, h.run, rg, ry, hH, ?_⟩
  rcases hst with ⟨hF, hx⟩ | ⟨h0, x, hd, hx0, hF, hx⟩
  · exact .inl ⟨hF, fun q => by cases q⟩
  · exact .inr ⟨h0, x, hd, hx0, hF, fun q => by cases q⟩
theorem is_cell {w w' : World} {s : Sl} {z : Nat → Int} (h : Is w s z) (hb : Below w.heap.size w w') (j : Nat) (hj : j < s.n) : ∃ b off, s.a = some ⟨b, off, none⟩ ∧ w'.cell? ⟨b, off + j, none⟩ = some (.int .i64 (z j)) := by
  obtain ⟨b, off, e, hc⟩ := h.2.resolve_left (by omega)
  exact ⟨b, off, e, cell_later hb (hc j hj)⟩
theorem YC.bad {w : World} {gb yb B : Nat} {top : Int} {Z : Nat → Int} {T N : Nat} {fin : Bool} {P : Nat} {L : List (Pk × Cn)} {la le : Int} (h : YC w gb yb B top Z T N fin P L la le) : w.cell? ⟨yb, 3, none⟩ = some (.bool false) := by
  obtain ⟨_, _, hH, _⟩ := h.ex
  obtain ⟨v, qs, ha, _⟩ := hH
  exact ha.cell 3 _ rfl
set_option maxRecDepth 100000 in
set_option maxHeartbeats 8000000 in
theorem cuts_any (a0 : Option Addr) (T k0 : Nat) (Z : Nat → Int) (lc ls : Sl) (zc zs : Nat → Int) (top : Int) (w : World) (h0 : Came w a0 T k0 Z) (p0 : Plain a0) (hc : Is w lc zc) (ha : Is w ls zs) (hg : Gw w) (hm1 : lc.n ≤ 9223372036854775807) (hm2 : ls.n ≤ 9223372036854775807) :
    Calls Tryz.prog 6 #[.slice a0 T k0, .slice lc.a lc.n lc.c, .slice ls.a ls.n ls.c, .int .i64 top] w fun e w' => e = .returned (.bool true) ∧ Below w.heap.size w w' := by
  have HB : Hid (By w ⟨a0, T, k0⟩ Z) := came_by h0 p0
  have HC : Hid (Is w lc zc) := hc
  have HS_ : Hid (Is w ls zs) := ha
  have HG : Hid (Gw w) := hg
  have HM : Hid (lc.n ≤ 9223372036854775807 ∧ ls.n ≤ 9223372036854775807) := ⟨hm1, hm2⟩
  have HZ : Hid (∀ i, 0 ≤ Z i ∧ Z i ≤ 255) := h0.2.1
  clear h0 hc ha hg hm1 hm2
  go_enter Tryz.func6, Tryz.ntmps6
  go_wp2_with fail
  go_must (go_at_call 20)
  refine (fknown_any w HG.out).mono ?_
  rintro e w1 ⟨rfl, hb1⟩
  have B1 : Hid (Below w.heap.size w w1) := hb1
  clear hb1
  by_cases hT : 20000 < T
  · have q0 : (20000 : Int) < (T : Int) := by omega
    go_wp2_with fail
    go_ret
    exact ⟨rfl, B1.out⟩
  have q0 : ¬ (20000 : Int) < (T : Int) := by omega
  have HT : Hid (T ≤ 20000) := by show T ≤ 20000; omega
  clear hT
  go_wp2_with fail
  go_must (go_at_call 21)
  refine (new_any top w1).mono ?_
  rintro e w2 ⟨rfl, hw2⟩
  have HW2 : Hid (w2 = w1.alloc (.cells (frCells top (.slice none 0 0) 0 0 0 0) 88)) := hw2
  clear hw2
  go_wp2_with fail
  go_must (go_at_call 21)
  refine (new_any top w2).mono ?_
  rintro e w3 ⟨rfl, hw3⟩
  have hw2 := HW2.out
  clear HW2
  obtain ⟨w5, hw5⟩ : ∃ W, W = (w3.alloc (.cells #[.slice none 0 0, .int .i64 0, .int .i64 0, .bool false] 57)).alloc (.cells #[.slice none 0 0, .int .i64 0, .int .i64 0, .bool false] 57) := ⟨_, rfl⟩
  have hs2 : w2.heap.size = w1.heap.size + 1 := by rw [hw2]; simp
  have hs3 : w3.heap.size = w1.heap.size + 2 := by rw [hw3]; simp [hs2]
  have hs5 : w5.heap.size = w1.heap.size + 4 := by rw [hw5]; simp [hs3]
  have f5 : w5.heap[w1.heap.size]? = some (.cells (frCells top (.slice none 0 0) 0 0 0 0) 88 (0, 0)) := by
    rw [hw5]
    refine ((((Below.refl w3.heap.size w3).alloc (Nat.le_refl _) _).alloc (by simp) _).block _ (by omega)).trans ?_
    rw [hw3]
    refine (((Below.refl w2.heap.size w2).alloc (Nat.le_refl _) _).block _ (by omega)).trans ?_
    rw [hw2]; exact heap_alloc_new w1 _
  have g5 : w5.heap[w2.heap.size]? = some (.cells (frCells top (.slice none 0 0) 0 0 0 0) 88 (0, 0)) := by
    rw [hw5]
    refine ((((Below.refl w3.heap.size w3).alloc (Nat.le_refl _) _).alloc (by simp) _).block _ (by omega)).trans ?_
    rw [hw3]; exact heap_alloc_new w2 _
  have x5 : w5.heap[w3.heap.size]? = some (.cells #[.slice none 0 0, .int .i64 0, .int .i64 0, .bool false] 57 (0, 0)) := by
    rw [hw5]
    exact (((Below.refl _ _).alloc (Nat.le_refl _) _).block _ (by simp)).trans (heap_alloc_new w3 _)
  have y5 : w5.heap[w3.heap.size + 1]? = some (.cells #[.slice none 0 0, .int .i64 0, .int .i64 0, .bool false] 57 (0, 0)) := by
    have := heap_alloc_new (w3.alloc (.cells #[.slice none 0 0, .int .i64 0, .int .i64 0, .bool false] 57)) (.cells #[.slice none 0 0, .int .i64 0, .int .i64 0, .bool false] 57)
    rw [World.size_alloc] at this
    rw [hw5]; exact this
  have B5 : Hid (Below w1.heap.size w1 w5) := by
    show Below _ _ _
    rw [hw5]
    refine Below.alloc (Below.alloc ?_ (by omega) _) (by simp; omega) _
    rw [hw3, hw2]
    exact ((Below.refl _ _).alloc (Nat.le_refl _) _).alloc (by simp) _
  have S5 : Hid (w2.heap.size = w1.heap.size + 1 ∧ w3.heap.size = w1.heap.size + 2 ∧ w5.heap.size = w1.heap.size + 4 ∧ 3 ≤ w1.heap.size) := ⟨hs2, hs3, hs5, (HG.out.below B1.out).three⟩
  have X5 : Hid (YC w5 w1.heap.size w3.heap.size w5.heap.size top Z T 0 false 0 [] 0 0) := yc_start _ Z T f5 x5
  have YY5 : Hid (w5.heap[w2.heap.size]? = some (.cells (frCells top (.slice none 0 0) 0 0 0 0) 88 (0, 0)) ∧ w5.heap[w3.heap.size + 1]? = some (.cells #[.slice none 0 0, .int .i64 0, .int .i64 0, .bool false] 57 (0, 0))) := ⟨g5, y5⟩
  have W5 : Hid (Below w.heap.size w w5) := below_on B1.out B5.out
  clear f5 g5 x5 y5 hs2 hs3 hs5 hw2 hw3
  go_upto_region 9 with fail
  rw [← hw5]
  clear hw5
  go_wp2_with fail
  go_must (go_at_call 22)
  refine (yc_put X5.out HZ.out ⟨a0, T, k0⟩ (by rw [sh_zero]; exact By.congr HB.out (fun b off hn e => W5.out.block b (by obtain ⟨b', off', e', hc⟩ := HB.out.2.2.resolve_left hn; rw [e'] at e; injection e with e; injection e with e; subst e; exact lt_of_cell (hc 0 (by have : 0 < T := Nat.pos_of_ne_zero hn; exact this))))) HT.out (by show 0 + T ≤ T; omega) (Nat.le_refl _)).mono ?_
  rintro e w6 ⟨rfl, X6, C6⟩
  have G6 : Hid (Gw w6) := gw_ch (HG.out.below W5.out) C6.out (fun k hk q => by have := S5.out; omega)
  go_wp2_with fail
  go_must (go_at_call 23)
  refine (yc_hears X6.out HZ.out (-1) (by decide) (by decide) HT.out (by show 0 + T ≤ T; omega) (Nat.le_trans (Nat.le_refl _) C6.out.size) G6.out (by have := S5.out; exact ⟨by omega, by omega, by omega⟩)).mono ?_
  rintro e w7 ⟨rfl, Px, Lx, lax, lex, X7, C7⟩
  have XX : Hid (YC w7 w1.heap.size w3.heap.size w5.heap.size top Z T T true Px Lx lax lex) := by
    have q := X7.out
    rw [show 0 + T = T from Nat.zero_add T] at q
    exact q
  have C57 : Hid (Ch (fun k => k = w1.heap.size ∨ k = w3.heap.size ∨ w5.heap.size ≤ k) w5 w7) := C6.out.trans C7.out (fun _ _ q => q)
  have G7 : Hid (Gw w7) := gw_ch (HG.out.below W5.out) C57.out (fun k hk q => by have := S5.out; omega)
  have Y7 : Hid (YC w7 w2.heap.size (w3.heap.size + 1) w7.heap.size top Z T 0 false 0 [] 0 0) := yc_start _ Z T ((C57.out.block _ (by have := S5.out; omega) (fun q => by have := S5.out; omega)).trans YY5.out.1) ((C57.out.block _ (by have := S5.out; omega) (fun q => by have := S5.out; omega)).trans YY5.out.2)
  have W7 : Hid (Below w.heap.size w w7) := below_ch W5.out C57.out (fun k q => by have := S5.out; have := B1.out.size; omega)
  have S7 : Hid (w1.heap.size + 4 ≤ w7.heap.size) := by have := S5.out; have := C57.out.size; show _ ≤ _; omega
  clear X5 YY5 X6 C6 G6 X7 C7 C57 W5 B5
  have hroom : IntKind.i64.wrap (min (max top 2) 268435455 + 4) = clampM top + 4 := by
    have := clampM_bd top
    show IntKind.i64.wrap (clampM top + 4) = _
    rw [IntKind.wrap_i64]; omega
  go_wp2_with fail
  go_loopg [14, 15] T (fun gg s14 s15 wx => ∃ (i N P : Nat) (L : List (Pk × Cn)) (la le : Int), s14 = .int .i64 i ∧ s15 = .int .i64 N ∧ N + gg = T ∧ i ≤ N ∧ Hid (YC wx w2.heap.size (w3.heap.size + 1) w7.heap.size top Z T N false P L la le) ∧ Hid (Ch (fun k => k = w2.heap.size ∨ k = w3.heap.size + 1) w7 wx))
  case atStart => exact ⟨0, 0, 0, [], 0, 0, rfl, rfl, by omega, Nat.le_refl _, Y7, Ch.refl _ _⟩
  case round =>
    obtain ⟨i, N, P, L, la, le, h14, h15, hN, hi, YR, CR⟩ := hrel
    subst h14 h15
    have W8 : Hid (Below w.heap.size w wr) := below_ch W7.out CR.out (fun k q => by have := S5.out; have := B1.out.size; omega)
    have G8 : Hid (Gw wr) := HG.out.below W8.out
    have SW : Hid (w7.heap.size ≤ wr.heap.size) := CR.out.size
    by_cases hlt : N < T
    · have p0 : (N : Int) < (T : Int) := by omega
      obtain ⟨bb, off, hab, hbc⟩ := HB.out.2.2.resolve_left (show ¬ T = 0 by omega)
      have hk0 : T ≤ k0 := HB.out.1
      have hab' : a0 = some ⟨bb, off, none⟩ := hab
      have HBC : Hid (∀ j, j < T → wr.cell? ⟨bb, off + j, none⟩ = some (.int .u8 (Z j))) := fun j hj => cell_later W8.out (hbc j hj)
      clear hab hbc
      subst hab'
      have HI : Hid (i ≤ N ∧ N < T ∧ T ≤ 20000) := ⟨hi, hlt, HT.out⟩
      go_upto_region 16 with fail
      go_cut [65] from 53 to 64 (fun s65 wx => ∃ b : Bool, s65 = .bool b ∧ Hid (wx = wr) ∧ Hid (b = true → 0 < lc.n ∧ 0 < zc (i % lc.n)))
      case first =>
        by_cases hc0 : 0 < lc.n
        · obtain ⟨cb, co, ea, hcell⟩ := is_cell HC.out W8.out (i % lc.n) (Nat.mod_lt _ hc0)
          have r0 : (0 : Int) < (lc.n : Int) := by omega
          have r1 : ((lc.n : Int) == 0) = false := by simp; omega
          have r2 : Int.tmod (i : Int) (lc.n : Int) = ((i % lc.n : Nat) : Int) := rfl
          obtain ⟨j, hj⟩ : ∃ j, j = i % lc.n := ⟨_, rfl⟩
          have hjl : j < lc.n := by rw [hj]; exact Nat.mod_lt _ hc0
          rw [← hj] at hcell r2
          have HJ : Hid (j = i % lc.n) := hj
          clear hj
          have r3 : (0 : Int) ≤ (j : Int) := by omega
          have r4 : (j : Int) < (lc.n : Int) := by omega
          rw [ea]
          by_cases hv : 0 < zc j
          · go_wp2_with fail
            rw [← ea]
            go_meet
            case rel => exact ⟨true, rfl, rfl, fun _ => ⟨hc0, by rw [← HJ.out]; exact hv⟩⟩
          · go_wp2_with fail
            rw [← ea]
            go_meet
            case rel => exact ⟨false, rfl, rfl, fun q => by cases q⟩
        · have r0 : ¬ (0 : Int) < (lc.n : Int) := by omega
          go_wp2_with fail
          go_meet
          case rel => exact ⟨false, rfl, rfl, fun q => by cases q⟩
      case rest =>
        obtain ⟨b, hs65, hwc, HV⟩ := hcut
        have hwc' := Hid.out hwc
        clear hwc
        subst hs65
        subst hwc'
        go_upto_if 65 with fail
        go_cut [16] from 53 to 72 (fun s16 wx => ∃ nn : Int, s16 = .int .i64 nn ∧ 0 < nn ∧ Hid (wx = wc))
        case first =>
          cases b with
          | true =>
            obtain ⟨hc0, hv⟩ := HV.out rfl
            obtain ⟨cb, co, ea, hcell⟩ := is_cell HC.out W8.out (i % lc.n) (Nat.mod_lt _ hc0)
            have r0 : (0 : Int) < (lc.n : Int) := by omega
            have r1 : ((lc.n : Int) == 0) = false := by simp; omega
            have r2 : Int.tmod (i : Int) (lc.n : Int) = ((i % lc.n : Nat) : Int) := rfl
            obtain ⟨j, hj⟩ : ∃ j, j = i % lc.n := ⟨_, rfl⟩
            have hjl : j < lc.n := by rw [hj]; exact Nat.mod_lt _ hc0
            rw [← hj] at hcell r2 hv
            clear hj
            have r3 : (0 : Int) ≤ (j : Int) := by omega
            have r4 : (j : Int) < (lc.n : Int) := by omega
            rw [ea]
            go_wp2_with fail
            rw [← ea]
            go_meet
            case rel => exact ⟨_, rfl, hv, rfl⟩
          | false =>
            go_wp2_with fail
            go_meet
            case rel => exact ⟨1, rfl, by decide, rfl⟩
        case rest =>
          obtain ⟨nn, hs16, hnn, hwd⟩ := hcut
          have hwd' := Hid.out hwd
          clear hwd HV
          subst hs16
          subst hwd'
          obtain ⟨m, hm⟩ : ∃ m : Nat, min nn (((T - N : Nat)) : Int) = (m : Int) := ⟨(min nn ((T - N : Nat) : Int)).toNat, by omega⟩
          have HM2 : Hid (0 < m ∧ N + m ≤ T) := ⟨by omega, by omega⟩
          have hwT : IntKind.i64.wrap ((T : Int) - (N : Int)) = ((T - N : Nat) : Int) := by rw [IntKind.wrap_i64]; have := HI.out; omega
          have hwN : IntKind.i64.wrap ((N : Int) + (m : Int)) = ((N + m : Nat) : Int) := by rw [IntKind.wrap_i64]; have := HI.out; have := HM2.out; omega
          have e1 : (0 : Int) ≤ (N : Int) := by omega
          have e2 : (N : Int) ≤ ((N + m : Nat) : Int) := by omega
          have e3 : ((N + m : Nat) : Int) ≤ (k0 : Int) := by have := HM2.out; omega
          have e4 : ¬ (k0 - N = 0) := by have := HM2.out; omega
          clear hnn
          go_wp2_with fail
          go_must (go_at_call 22)
          refine (yc_put YR.out HZ.out ⟨some ⟨bb, off + N, none⟩, m, k0 - N⟩ ⟨by show m ≤ k0 - N; have := HM2.out; omega, sh_bd HZ.out N, .inr ⟨bb, off + N, rfl, fun j hj => by have hj' : j < m := hj; have := HBC.out (N + j) (by have := HM2.out; omega); rw [Nat.add_assoc]; exact this⟩⟩ HT.out HM2.out.2 SW.out).mono ?_
          rintro e w9 ⟨rfl, Y9, C9⟩
          have C79 : Hid (Ch (fun k => k = w2.heap.size ∨ k = w3.heap.size + 1) w7 w9) := CR.out.trans C9.out (fun j hj q => by omega)
          have W9 : Hid (Below w.heap.size w w9) := below_ch W7.out C79.out (fun k q => by have := S5.out; have := B1.out.size; omega)
          have G9 : Hid (Gw w9) := HG.out.below W9.out
          have S9 : Hid (w7.heap.size ≤ w9.heap.size) := C79.out.size
          have hwi : IntKind.i64.wrap ((i : Int) + 1) = ((i + 1 : Nat) : Int) := by rw [IntKind.wrap_i64]; have := HI.out; omega
          clear YR CR C9 hm hwT e1 e2 e3 e4
          by_cases ha0 : 0 < ls.n
          · obtain ⟨cb, co, ea, hcell⟩ := is_cell HS_.out W9.out (i % ls.n) (Nat.mod_lt _ ha0)
            have r0 : (0 : Int) < (ls.n : Int) := by omega
            have r1 : ((ls.n : Int) == 0) = false := by simp; omega
            have r2 : Int.tmod (i : Int) (ls.n : Int) = ((i % ls.n : Nat) : Int) := rfl
            obtain ⟨j, hj⟩ : ∃ j, j = i % ls.n := ⟨_, rfl⟩
            have hjl : j < ls.n := by rw [hj]; exact Nat.mod_lt _ ha0
            rw [← hj] at hcell r2
            clear hj
            have r3 : (0 : Int) ≤ (j : Int) := by omega
            have r4 : (j : Int) < (ls.n : Int) := by omega
            rw [ea]
            have cb3 : w9.cell? ⟨w3.heap.size + 1, 3, none⟩ = some (.bool false) := YC.bad Y9.out
            rcases Int.lt_trichotomy (zs j) 0 with hv | hv | hv
            · have v0 : zs j < 0 := hv
              clear cb3
              go_wp2_with fail
              go_must (go_at_call 23)
              refine (yc_hears Y9.out HZ.out (-1) (by decide) (by decide) HT.out HM2.out.2 S9.out G9.out (by have := S5.out; have := S7.out; exact ⟨by omega, by omega, by omega⟩)).mono ?_
              rintro e wA ⟨rfl, PA, LA, laA, leA, YA, CA⟩
              have C7A : Hid (Ch (fun k => k = w2.heap.size ∨ k = w3.heap.size + 1) w7 wA) := C79.out.trans CA.out (fun j hj q => by omega)
              clear hcell
              go_wp2_with fail
              go_must (go_at_call 24)
              refine (yc_held YA.out HZ.out).mono ?_
              rintro e wB ⟨hk, rfl, hbB, hkr, _⟩
              have YB : Hid (YC wB w2.heap.size (w3.heap.size + 1) w7.heap.size top Z T (N + m) false PA LA laA leA) := (YA.out.any).below hbB.out
              have C7B : Hid (Ch (fun k => k = w2.heap.size ∨ k = w3.heap.size + 1) w7 wB) := C7A.out.trans (Below.ch (S := fun _ => False) hbB.out) (fun _ _ q => q.elim)
              have cb3 : wB.cell? ⟨w3.heap.size + 1, 3, none⟩ = some (.bool false) := YC.bad YB.out
              go_wp2_with fail
              rw [← ea]
              go_roundg (T - (N + m))
              all_goals first | (have := HM2.out; have := HI.out; omega) | exact ⟨i + 1, N + m, PA, LA, laA, leA, rfl, rfl, by have := HM2.out; omega, by have := HM2.out; have := HI.out; omega, YB, C7B⟩ | exact ⟨i + 1, N + m, PA, LA, laA, leA, by simp, rfl, by have := HM2.out; omega, by have := HM2.out; have := HI.out; omega, YB, C7B⟩
            · have v0 : ¬ zs j < 0 := by omega
              have v1 : ¬ 0 < zs j := by omega
              go_wp2_with fail
              rw [← ea]
              go_roundg (T - (N + m))
              all_goals first | (have := HM2.out; have := HI.out; omega) | exact ⟨i + 1, N + m, P, L, la, le, rfl, rfl, by have := HM2.out; omega, by have := HM2.out; have := HI.out; omega, Y9, C79⟩ | exact ⟨i + 1, N + m, P, L, la, le, by simp, rfl, by have := HM2.out; omega, by have := HM2.out; have := HI.out; omega, Y9, C79⟩
            · have v0 : ¬ zs j < 0 := by omega
              have v1 : 0 < zs j := hv
              obtain ⟨m5, hm5⟩ : ∃ m5 : Int, min (zs j) 5 = m5 := ⟨_, rfl⟩
              have H5 : Hid (0 < m5 ∧ m5 ≤ 5) := ⟨by omega, by omega⟩
              clear cb3
              go_wp2_with fail
              go_must (go_at_call 23)
              refine (yc_hears Y9.out HZ.out m5 (by have := H5.out; omega) (by have := H5.out; omega) HT.out HM2.out.2 S9.out G9.out (by have := S5.out; have := S7.out; exact ⟨by omega, by omega, by omega⟩)).mono ?_
              rintro e wA ⟨rfl, PA, LA, laA, leA, YA', CA⟩
              have YA : Hid (YC wA w2.heap.size (w3.heap.size + 1) w7.heap.size top Z T (N + m) false PA LA laA leA) := YA'.out.any
              have C7A : Hid (Ch (fun k => k = w2.heap.size ∨ k = w3.heap.size + 1) w7 wA) := C79.out.trans CA.out (fun j hj q => by omega)
              have cb3 : wA.cell? ⟨w3.heap.size + 1, 3, none⟩ = some (.bool false) := YC.bad YA.out
              clear YA'
              clear hcell
              go_wp2_with fail
              rw [← ea]
              go_roundg (T - (N + m))
              all_goals first | (have := HM2.out; have := HI.out; omega) | exact ⟨i + 1, N + m, PA, LA, laA, leA, rfl, rfl, by have := HM2.out; omega, by have := HM2.out; have := HI.out; omega, YA, C7A⟩ | exact ⟨i + 1, N + m, PA, LA, laA, leA, by simp, rfl, by have := HM2.out; omega, by have := HM2.out; have := HI.out; omega, YA, C7A⟩
          · have r1 : ((ls.n : Int) == 0) = true := by simp; omega
            go_wp2_with fail
            go_roundg (T - (N + m))
            all_goals first | (have := HM2.out; have := HI.out; omega) | exact ⟨i + 1, N + m, P, L, la, le, rfl, rfl, by have := HM2.out; omega, by have := HM2.out; have := HI.out; omega, Y9, C79⟩ | exact ⟨i + 1, N + m, P, L, la, le, by simp, rfl, by have := HM2.out; omega, by have := HM2.out; have := HI.out; omega, Y9, C79⟩
    · have hTN : N = T := by omega
      have p0 : ¬ (N : Int) < (T : Int) := by omega
      subst hTN
      go_wp2_with fail
      go_must (go_at_call 23)
      refine (yc_hears YR.out HZ.out (-1) (by decide) (by decide) HT.out (Nat.le_refl _) SW.out G8.out (by have := S5.out; have := S7.out; exact ⟨by omega, by omega, by omega⟩)).mono ?_
      rintro e wA ⟨rfl, PA, LA, laA, leA, YA, CA⟩
      have C7A : Hid (Ch (fun k => k = w2.heap.size ∨ k = w3.heap.size + 1) w7 wA) := CR.out.trans CA.out (fun j hj q => by omega)
      have WA : Hid (Below w.heap.size w wA) := below_ch W7.out C7A.out (fun k q => by have := S5.out; have := B1.out.size; omega)
      have XA : Hid (YC wA w1.heap.size w3.heap.size w5.heap.size top Z N N true Px Lx lax lex) := XX.out.keep C7A.out (fun k q => by have := S5.out; exact ⟨by omega, by omega, by omega⟩)
      have YA1 : Hid (YC wA w2.heap.size (w3.heap.size + 1) w7.heap.size top Z N N true PA LA laA leA) := YA.out
      obtain ⟨e1, e2, e3, e4⟩ := yc_same XA.out YA1.out
      subst e1 e2 e3 e4
      have hln := rn_len HZ.out (by have := HT.out; omega) XA.out.run
      have SM : Hid (Calls Tryz.prog 25 #[.pointer (some ⟨w3.heap.size, 0, none⟩), .pointer (some ⟨w3.heap.size + 1, 0, none⟩)] wA fun e w' => e = .returned (.bool true) ∧ Below wA.heap.size wA w') := by
        obtain ⟨_, _, hx, _⟩ := XA.out.ex
        obtain ⟨_, _, hy, _⟩ := YA1.out.ex
        exact same_any hx hy hln.2 (by have := HT.out; have := XA.out.pn; omega)
      clear hln YA CR CA C7A YR XX
      go_wp2_with fail
      go_must (go_at_call 25)
      refine SM.out.mono ?_
      rintro e wB ⟨rfl, hbB⟩
      have BB : Hid (Below wA.heap.size wA wB) := hbB
      clear hbB
      go_wp2_with fail
      go_must (go_at_call 24)
      refine (yc_held (XA.out.below BB.out) HZ.out).mono ?_
      rintro e wC ⟨h1, rfl, bC, hr1, hq1⟩
      have e1 := hq1 rfl
      subst e1
      clear hq1
      have BC : Hid (Below wA.heap.size wA wC) := below_on BB.out bC.out
      go_wp2_with fail
      go_must (go_at_call 24)
      refine (yc_held (YA1.out.below BC.out) HZ.out).mono ?_
      rintro e wD ⟨h2, rfl, bD, hr2, hq2⟩
      have e2 := hq2 rfl
      subst e2
      clear hq2 hr2
      have BD : Hid (Below wA.heap.size wA wD) := below_on BC.out bD.out
      have hle : ((hv Z N top Px : Nat) : Int) ≤ clampM top + 4 := by omega
      have hge : (0 : Int) ≤ ((hv Z N top Px : Nat) : Int) := by omega
      go_wp2_with fail
      go_must (go_at_call 24)
      refine (yc_held (XA.out.below BD.out) HZ.out).mono ?_
      rintro e wE ⟨h3, rfl, bE, hr3, hq3⟩
      have e3 := hq3 rfl
      subst e3
      clear hq3 hr3
      have BE : Hid (Below wA.heap.size wA wE) := below_on BD.out bE.out
      go_wp2_with fail
      go_must (go_at_call 24)
      refine (yc_held (XA.out.below BE.out) HZ.out).mono ?_
      rintro e wF ⟨h4, rfl, bF, hr4, hq4⟩
      have e4 := hq4 rfl
      subst e4
      clear hq4 hr4
      have BF : Hid (Below w.heap.size w wF) := below_on WA.out (below_on BE.out bF.out)
      go_wp2_with fail
      go_ret
      exact ⟨rfl, BF.out⟩
end Go.Proofs.YtibihbclijpkjaaGreatDoor
