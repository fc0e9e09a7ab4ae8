import Derived.Test.YtdhinpmjbcohaaaHs
import Derived.Test.YtdhinpmjbcohaaaKn
import Derived.Deep.LoopGhost
namespace Go.Proofs.Ytdhinpmjbcohaaa
open Go Go.RowKit
set_option linter.unusedSimpArgs false
set_option linter.unusedVariables false
open Ks

set_option maxRecDepth 100000 in
set_option maxHeartbeats 8000000 in
theorem hides_walk {a : Option Addr} {c : Nat} (n : Nat) (ops : List Op8) (most : Int) (w : World) (hn : n = ops.length) (hc : n ≤ c) (hS : ScR w a ops) (hok : ∀ p ∈ ops, okOp p) :
    Calls Try.prog 6 #[.int .i64 most, .slice a n c] w fun r w' => r = .returned (.bool true) ∧ Below w.heap.size w w' := by
  have HK0 : Hid (Calls Try.prog 13 #[] w fun r w' => r = .returned (.bool true) ∧ Below w.heap.size w w') := known_any w
  have HN : Hid (n = ops.length ∧ n ≤ c) := ⟨hn, hc⟩
  have HSC : Hid (∀ w', Below w.heap.size w w' → ScR w' a ops) := fun w' hb hne => by
    obtain ⟨g, o, h1, h2⟩ := hS hne
    exact ⟨g, o, h1, fun j p hp q u hu => cell_below hb (cell_lt' (h2 j p hp q u hu)) (h2 j p hp q u hu)⟩
  have HO : Hid (∀ p ∈ ops, okOp p) := hok
  have HNew : Hid (∀ w1 : World, Calls Try.prog 21 #[.int .i64 most] w1 fun r w' => r = .returned (pt w1.heap.size) ∧ Below w1.heap.size w1 w' ∧ CS w' w1.heap.size (rm most) [] (fun j => j = w1.heap.size)) := fun w1 => new_any most w1
  clear hn hc hS hok
  by_cases hlen : 600 < n
  · have hl : (600 : Int) < (n : Int) := by omega
    go_enter Try.func6, Try.ntmps6
    go_wp2_with fail
    go_must (go_at_call 13)
    refine (HK0.out).mono ?_
    rintro r w1 ⟨rfl, h1⟩
    have B1 : Hid (Below w.heap.size w w1) := h1
    clear h1
    go_wp2_with fail
    go_ret
    exact ⟨rfl, B1.out⟩
  · have hl : ¬ (600 : Int) < (n : Int) := by omega
    go_enter Try.func6, Try.ntmps6
    go_wp2_with fail
    go_must (go_at_call 13)
    refine (HK0.out).mono ?_
    rintro r w1 ⟨rfl, h1⟩
    have B1 : Hid (Below w.heap.size w w1) := h1
    clear h1
    go_wp2_with fail
    go_must (go_at_call 21)
    refine (HNew.out w1).mono ?_
    rintro r w2 ⟨rfl, h2, h3⟩
    have S2 : Hid (Below w1.heap.size w1 w2 ∧ CS w2 w1.heap.size (rm most) [] (fun j => j = w1.heap.size)) := ⟨h2, h3⟩
    clear h2 h3
    unfold pt
    go_wp2_with fail
    go_loopg [6, 7] n (fun gk s6 s7 wx => ∃ i : Nat, ∃ ad : Int, i + gk = n ∧ s7 = .int .i64 i ∧ s6 = .int .i64 ad ∧ Hid (-7 * (i : Int) ≤ ad ∧ ad ≤ 7 * (i : Int)) ∧ Hid (∃ l F, HT w wx w1.heap.size (rm most) ad l F))
    case atStart =>
      refine ⟨0, 0, by omega, rfl, rfl, ⟨by omega, by omega⟩, [], fun j => j = w1.heap.size, S2.out.2, ?_, by simp, ?_⟩
      · intro j hj
        rw [hj]
        exact B1.out.size
      · have c1 : Ch (fun j => w.heap.size ≤ j) w w1 := Below.ch B1.out
        exact c1.then (Below.ch S2.out.1)
    case round =>
      obtain ⟨i, ad, hi, rfl, rfl, HA, HH⟩ := hrel
      cases gk with
      | zero =>
        have hz : ¬ (i : Int) < (n : Int) := by omega
        have BB : Hid (Below w.heap.size w wr) := by
          obtain ⟨l, F, hT⟩ := HH.out
          exact ⟨hT.ch.os, hT.ch.tape, hT.ch.output, hT.ch.size, fun k hk => hT.ch.block k hk (by omega)⟩
        clear HH
        go_wp2_with fail
        go_ret
        exact ⟨rfl, BB.out⟩
      | succ gk =>
        have hz : (i : Int) < (n : Int) := by omega
        have hz0 : (0 : Int) ≤ (i : Int) := by omega
        obtain ⟨p, hp⟩ : ∃ p, ops[i]? = some p := ⟨_, List.getElem?_eq_getElem (by have := HN.out; omega)⟩
        have hne : ops ≠ [] := by intro h; rw [h] at hp; simp at hp
        obtain ⟨l, F, hT⟩ := HH.out
        have hBx : Below w.heap.size w wr := ⟨hT.ch.os, hT.ch.tape, hT.ch.output, hT.ch.size, fun k hk => hT.ch.block k hk (by omega)⟩
        obtain ⟨g, o, rfl, hcell⟩ := HSC.out wr hBx hne
        have d0 : wr.cell? ⟨g, o + i * 6, none⟩ = some (.int .i64 p.kind) := hcell i p hp 0 _ rfl
        have d1 := hcell i p hp 1 _ rfl
        have d2 := hcell i p hp 2 _ rfl
        have d3 := hcell i p hp 3 _ rfl
        have d4 := hcell i p hp 4 _ rfl
        have d5 := hcell i p hp 5 _ rfl
        have HP : Hid (ops[i]? = some p) := hp
        have HTT : Hid (HT w wr w1.heap.size (rm most) ad l F) := hT
        clear hcell hne hp hT hBx HH
        obtain ⟨kind, sec, ⟨ka, ki⟩, v, st⟩ := p
        simp only at d0 d1 d2 d3 d4 d5
        have OK : Hid (okOp ⟨kind, sec, (ka, ki), v, st⟩) := HO.out _ (List.mem_of_getElem? HP.out)
        have hwi : IntKind.i64.wrap ((i : Int) + 1) = (i : Int) + 1 := by rw [IntKind.wrap_i64]; omega
        have T0 : Hid (HS w (wr.alloc (.cells #[.int .i64 kind, .bool sec, .string ka, .int .i64 ki, .int .i64 v, .int .i64 st] 33)) w1.heap.size (rm most) ad l F wr.heap.size ⟨kind, sec, (ka, ki), v, st⟩) := HTT.out.box ⟨kind, sec, (ka, ki), v, st⟩
        have hv7 := tmod_bd v (m := 7) (by decide)
        have hk1 := tmod_bd ki (m := 1000) (by decide)
        have hA1 := HA.out
        have hw1 : wrap64 (ad + v.tmod 7) = ad + v.tmod 7 := w64 (by omega) (by omega)
        have hw2 : wrap64 (ad + v.tmod 7 + 1) = ad + v.tmod 7 + 1 := w64 (by omega) (by omega)
        have hy : wrap64 (ki.tmod 1000 + ad) = ki.tmod 1000 + ad := w64 (by omega) (by omega)
        have HA2 : Hid (-7 * ((i + 1 : Nat) : Int) ≤ ad + v.tmod 7 + 1 ∧ ad + v.tmod 7 + 1 ≤ 7 * ((i + 1 : Nat) : Int)) := ⟨by omega, by omega⟩
        have HA3 : Hid (-7 * ((i + 1 : Nat) : Int) ≤ ad ∧ ad ≤ 7 * ((i + 1 : Nat) : Int)) := ⟨by omega, by omega⟩
        clear hv7 hk1 hA1
        by_cases k4 : kind = 4
        · subst k4
          have HC : Hid (Calls Try.prog 22 #[pt w1.heap.size] (wr.alloc (.cells #[.int .i64 4, .bool sec, .string ka, .int .i64 ki, .int .i64 v, .int .i64 st] 33)) fun r w' => r = .returned (.int .i64 l.length) ∧ Aft (wr.alloc (.cells #[.int .i64 4, .bool sec, .string ka, .int .i64 ki, .int .i64 v, .int .i64 st] 33)) w1.heap.size (rm most) F [] w') := clear_any T0.out.cs
          unfold pt at HC
          go_wp2_with fail
          go_must (go_at_call 22)
          refine (HC.out).mono ?_
          rintro r w3 ⟨rfl, h3⟩
          obtain ⟨F3, hT3⟩ := T0.out.clear (add' := ad + v.tmod 7 + 1) h3
          have T3 : Hid (HT w w3 w1.heap.size (rm most) (ad + v.tmod 7 + 1) [] F3) := hT3.tt
          clear h3 hT3
          go_wp2_with fail
          go_roundg gk
          case measure => omega
          case rel => exact ⟨i + 1, ad + v.tmod 7 + 1, by omega, by first | rfl | simp, by first | rfl | simp, HA2, ⟨_, _, T3.out⟩⟩
        · have n4 : (kind == 4) = false := by simpa using k4
          clear k4
          have HC : Hid (Calls Try.prog 23 #[pt w1.heap.size, kc (ka, ki)] (wr.alloc (.cells #[.int .i64 kind, .bool sec, .string ka, .int .i64 ki, .int .i64 v, .int .i64 st] 33)) fun r w' => r = .returned (.tuple #[vc ((lget l (ka, ki)).getD (none, 0, 0)), .bool (lget l (ka, ki)).isSome]) ∧ Aft (wr.alloc (.cells #[.int .i64 kind, .bool sec, .string ka, .int .i64 ki, .int .i64 v, .int .i64 st] 33)) w1.heap.size (rm most) F (lused l (ka, ki)) w') := get_any T0.out.cs OK.out.1
          cases hg : lget l (ka, ki) with
          | some u =>
            have HG : Hid (lget l (ka, ki) = some u) := hg
            have hus : lused l (ka, ki) = ltop (ka, ki) u l := by simp [lused, hg]
            rw [hg, hus] at HC
            simp only [Option.getD_some, Option.isSome_some] at HC
            obtain ⟨g1, x1, hu, _⟩ := T0.out.vs _ (lget_some hg)
            simp only at hu
            subst hu
            unfold pt kc vc at HC
            clear hg hus
            simp only at HC
            go_wp2_with fail
            go_must (go_at_call 23)
            refine (HC.out).mono ?_
            rintro r w3 ⟨rfl, h3⟩
            obtain ⟨F3, hT3, _⟩ := T0.out.aft h3 (fun q hq => by
              rcases List.mem_cons.1 hq with e | e
              · rw [e]
                exact T0.out.vs _ (lget_some HG.out)
              · exact T0.out.vs q (lout_mem.1 e).1)
            obtain ⟨g3, x3, hu3, hb3, hlo3, hF3⟩ := hT3.vs _ (List.mem_cons_self)
            simp only at hu3 hb3
            obtain rfl : g3 = g1 := by simpa using hu3.symm
            have c0 : w3.cell? ⟨g3, 0, none⟩ = some (.int .i64 (ki.tmod 1000 + ad)) := box_cells hb3 0 _ rfl
            have c1 : w3.cell? ⟨g3, 1, none⟩ = some (.int .i64 x3) := box_cells hb3 1 _ rfl
            have f1 : w3.frozen? ⟨g3, 1, none⟩ = false := box_frozen hb3 1
            have b2 : w3.cell? ⟨wr.heap.size, 2, none⟩ = some (.string ka) := hT3.cell.1
            have b3 : w3.cell? ⟨wr.heap.size, 3, none⟩ = some (.int .i64 ki) := hT3.cell.2.1
            have hne : g3 ≠ wr.heap.size := fun q => by
              have := hT3.bx
              rw [← q, hb3] at this
              simp at this
            have hT4 : HS w (w3.drew.setCell ⟨g3, 1, none⟩ (.int .i64 ((i : Int) + 1))) w1.heap.size (rm most) ad (ltop (ka, ki) (some ⟨g3, 0, none⟩, 2, 2) l) F3 wr.heap.size ⟨kind, sec, (ka, ki), v, st⟩ := (hT3.below (Below.drew (Below.refl _ _))).note (y := ki.tmod 1000 + ad) (x := x3) hb3 hlo3 hF3 _
            have e2 : (w3.drew.setCell ⟨g3, 1, none⟩ (.int .i64 ((i : Int) + 1))).cell? ⟨wr.heap.size, 2, none⟩ = some (.string ka) := hT4.cell.1
            have e3 : (w3.drew.setCell ⟨g3, 1, none⟩ (.int .i64 ((i : Int) + 1))).cell? ⟨wr.heap.size, 3, none⟩ = some (.int .i64 ki) := hT4.cell.2.1
            have T4 : Hid (HS w (w3.drew.setCell ⟨g3, 1, none⟩ (.int .i64 ((i : Int) + 1))) w1.heap.size (rm most) ad (ltop (ka, ki) (some ⟨g3, 0, none⟩, 2, 2) l) F3 wr.heap.size ⟨kind, sec, (ka, ki), v, st⟩) := hT4
            have HB4 : Hid ((w3.drew.setCell ⟨g3, 1, none⟩ (.int .i64 ((i : Int) + 1))).heap[g3]? = some (.cells #[.int .i64 (ki.tmod 1000 + ad), .int .i64 ((i : Int) + 1)] 3 (0, 0)) ∧ ¬ F3 g3) := by
              refine ⟨?_, hF3⟩
              have hd : w3.drew.heap[g3]? = some (.cells #[.int .i64 (ki.tmod 1000 + ad), .int .i64 x3] 3 (0, 0)) := hb3
              rw [heap_set hd]
              simp
            have HG2 : Hid (Calls Try.prog 23 #[pt w1.heap.size, kc (ka, ki)] (w3.drew.setCell ⟨g3, 1, none⟩ (.int .i64 ((i : Int) + 1))) fun r w' => r = .returned (.tuple #[vc (some ⟨g3, 0, none⟩, 2, 2), .bool true]) ∧ Aft (w3.drew.setCell ⟨g3, 1, none⟩ (.int .i64 ((i : Int) + 1))) w1.heap.size (rm most) F3 (lused (ltop (ka, ki) (some ⟨g3, 0, none⟩, 2, 2) l) (ka, ki)) w') := by
              have := get_any hT4.cs OK.out.1
              rw [top_get] at this
              exact this
            unfold pt kc vc at HG2
            simp only at HG2
            clear h3 hT3 hT4 hb3 hlo3 hF3 hu3
            go_wp2_with fail
            go_region
            all_goals go_wp2_with fail
            all_goals go_must (go_at_call 23)
            all_goals refine (HG2.out).mono ?_
            all_goals rintro r w5 ⟨rfl, h5⟩
            all_goals obtain ⟨F5, hT5, _⟩ := T4.out.used h5
            all_goals have hb5 := (h5.2.block g3 (Array.getElem?_eq_some_iff.1 HB4.out.1).1 HB4.out.2).trans HB4.out.1
            all_goals have m1 : w5.cell? ⟨g3, 1, none⟩ = some (.int .i64 ((i : Int) + 1)) := box_cells hb5 1 _ rfl
            all_goals have T5 : Hid (∃ l F, HT w w5 w1.heap.size (rm most) ad l F) := ⟨_, _, hT5.tt⟩
            all_goals clear h5 hT5 hb5
            all_goals go_wp2_with fail
            all_goals go_roundg gk
            case measure => omega
            case rel => exact ⟨i + 1, ad, by omega, by first | rfl | simp, by first | rfl | simp, HA3, T5⟩
          | none =>
            have hus : lused l (ka, ki) = l := by simp [lused, hg]
            rw [hg, hus] at HC
            simp only [Option.getD_none, Option.isSome_none] at HC
            unfold pt kc vc at HC
            simp only at HC
            clear hg hus
            go_wp2_with fail
            go_must (go_at_call 23)
            refine (HC.out).mono ?_
            rintro r w3 ⟨rfl, h3⟩
            obtain ⟨F3, hT3, _⟩ := T0.out.aft h3 (fun q hq => T0.out.vs q hq)
            have b2 : w3.cell? ⟨wr.heap.size, 2, none⟩ = some (.string ka) := hT3.cell.1
            have b3 : w3.cell? ⟨wr.heap.size, 3, none⟩ = some (.int .i64 ki) := hT3.cell.2.1
            have hTa : HS w (w3.alloc (.cells #[.int .i64 (ki.tmod 1000 + ad), .int .i64 0] 3)) w1.heap.size (rm most) ad l F3 wr.heap.size ⟨kind, sec, (ka, ki), v, st⟩ := hT3.below ((Below.refl _ _).alloc (Nat.le_refl _) _)
            have hba : (w3.alloc (.cells #[.int .i64 (ki.tmod 1000 + ad), .int .i64 0] 3)).heap[w3.heap.size]? = some (.cells #[.int .i64 (ki.tmod 1000 + ad), .int .i64 0] 3 (0, 0)) := (MapKept.heap_alloc _ _).1
            have hFa : ¬ F3 w3.heap.size := fun q => by
              have := hT3.cs.lt q
              omega
            have hlo : w.heap.size ≤ w3.heap.size := hT3.ch.size
            have hVB : VB (w3.alloc (.cells #[.int .i64 (ki.tmod 1000 + ad), .int .i64 0] 3)) ad F3 w.heap.size (ka, ki) (some ⟨w3.heap.size, 0, none⟩, 2, 2) := ⟨w3.heap.size, 0, rfl, hba, hlo, hFa⟩
            have a2 : (w3.alloc (.cells #[.int .i64 (ki.tmod 1000 + ad), .int .i64 0] 3)).cell? ⟨wr.heap.size, 2, none⟩ = some (.string ka) := hTa.cell.1
            have a3 : (w3.alloc (.cells #[.int .i64 (ki.tmod 1000 + ad), .int .i64 0] 3)).cell? ⟨wr.heap.size, 3, none⟩ = some (.int .i64 ki) := hTa.cell.2.1
            have HPut : Hid (Calls Try.prog 24 #[pt w1.heap.size, kc (ka, ki), vc (some ⟨w3.heap.size, 0, none⟩, 2, 2)] (w3.alloc (.cells #[.int .i64 (ki.tmod 1000 + ad), .int .i64 0] 3)) fun r w' => r = .returned (.tuple #[]) ∧ Aft (w3.alloc (.cells #[.int .i64 (ki.tmod 1000 + ad), .int .i64 0] 3)) w1.heap.size (rm most) F3 ((ltop (ka, ki) (some ⟨w3.heap.size, 0, none⟩, 2, 2) l).take (rm most)) w') := put_any hTa.cs OK.out.1 (rm_le most)
            have TA : Hid (HS w (w3.alloc (.cells #[.int .i64 (ki.tmod 1000 + ad), .int .i64 0] 3)) w1.heap.size (rm most) ad l F3 wr.heap.size ⟨kind, sec, (ka, ki), v, st⟩ ∧ (w3.alloc (.cells #[.int .i64 (ki.tmod 1000 + ad), .int .i64 0] 3)).heap[w3.heap.size]? = some (.cells #[.int .i64 (ki.tmod 1000 + ad), .int .i64 0] 3 (0, 0)) ∧ ¬ F3 w3.heap.size ∧ VB (w3.alloc (.cells #[.int .i64 (ki.tmod 1000 + ad), .int .i64 0] 3)) ad F3 w.heap.size (ka, ki) (some ⟨w3.heap.size, 0, none⟩, 2, 2)) := ⟨hTa, hba, hFa, hVB⟩
            have HLO : Hid (w.heap.size ≤ w3.heap.size) := hlo
            unfold pt kc vc at HPut
            simp only at HPut
            clear h3 hT3 hTa hba hFa hVB hlo
            go_wp2_with fail
            go_must (go_at_call 24)
            refine (HPut.out).mono ?_
            rintro r w4 ⟨rfl, h4⟩
            obtain ⟨F4, hT4, hF4⟩ := TA.out.1.put TA.out.2.2.2 h4
            have hb4 : w4.heap[w3.heap.size]? = some (.cells #[.int .i64 (ki.tmod 1000 + ad), .int .i64 0] 3 (0, 0)) := (h4.2.block w3.heap.size (by simp) TA.out.2.2.1).trans TA.out.2.1
            have hnF4 : ¬ F4 w3.heap.size := fun q => by
              rcases hF4 _ q with q | q
              · exact TA.out.2.2.1 q
              · simp at q
                omega
            have c0 : w4.cell? ⟨w3.heap.size, 0, none⟩ = some (.int .i64 (ki.tmod 1000 + ad)) := box_cells hb4 0 _ rfl
            have c1 : w4.cell? ⟨w3.heap.size, 1, none⟩ = some (.int .i64 0) := box_cells hb4 1 _ rfl
            have f1 : w4.frozen? ⟨w3.heap.size, 1, none⟩ = false := box_frozen hb4 1
            have d2' : w4.cell? ⟨wr.heap.size, 2, none⟩ = some (.string ka) := hT4.cell.1
            have d3' : w4.cell? ⟨wr.heap.size, 3, none⟩ = some (.int .i64 ki) := hT4.cell.2.1
            have hne : w3.heap.size ≠ wr.heap.size := fun q => by
              have := hT4.bx
              rw [← q, hb4] at this
              simp at this
            have hT5 : HS w (w4.drew.setCell ⟨w3.heap.size, 1, none⟩ (.int .i64 ((i : Int) + 1))) w1.heap.size (rm most) ad ((ltop (ka, ki) (some ⟨w3.heap.size, 0, none⟩, 2, 2) l).take (rm most)) F4 wr.heap.size ⟨kind, sec, (ka, ki), v, st⟩ := (hT4.below (Below.drew (Below.refl _ _))).note (y := ki.tmod 1000 + ad) (x := 0) hb4 HLO.out hnF4 _
            have e2 : (w4.drew.setCell ⟨w3.heap.size, 1, none⟩ (.int .i64 ((i : Int) + 1))).cell? ⟨wr.heap.size, 2, none⟩ = some (.string ka) := hT5.cell.1
            have e3 : (w4.drew.setCell ⟨w3.heap.size, 1, none⟩ (.int .i64 ((i : Int) + 1))).cell? ⟨wr.heap.size, 3, none⟩ = some (.int .i64 ki) := hT5.cell.2.1
            have T5 : Hid (HS w (w4.drew.setCell ⟨w3.heap.size, 1, none⟩ (.int .i64 ((i : Int) + 1))) w1.heap.size (rm most) ad ((ltop (ka, ki) (some ⟨w3.heap.size, 0, none⟩, 2, 2) l).take (rm most)) F4 wr.heap.size ⟨kind, sec, (ka, ki), v, st⟩) := hT5
            have HB5 : Hid ((w4.drew.setCell ⟨w3.heap.size, 1, none⟩ (.int .i64 ((i : Int) + 1))).heap[w3.heap.size]? = some (.cells #[.int .i64 (ki.tmod 1000 + ad), .int .i64 ((i : Int) + 1)] 3 (0, 0)) ∧ ¬ F4 w3.heap.size) := by
              refine ⟨?_, hnF4⟩
              have hd : w4.drew.heap[w3.heap.size]? = some (.cells #[.int .i64 (ki.tmod 1000 + ad), .int .i64 0] 3 (0, 0)) := hb4
              rw [heap_set hd]
              simp
            have hG := get_any hT5.cs OK.out.1
            rw [top_get_take] at hG
            clear h4 hT4 hT5 hb4 hnF4 hF4
            by_cases hr : rm most = 0
            · rw [if_pos hr] at hG
              have HG2 : Hid (Calls Try.prog 23 #[pt w1.heap.size, kc (ka, ki)] (w4.drew.setCell ⟨w3.heap.size, 1, none⟩ (.int .i64 ((i : Int) + 1))) fun r w' => r = .returned (.tuple #[vc (none, 0, 0), .bool false]) ∧ Aft (w4.drew.setCell ⟨w3.heap.size, 1, none⟩ (.int .i64 ((i : Int) + 1))) w1.heap.size (rm most) F4 (lused ((ltop (ka, ki) (some ⟨w3.heap.size, 0, none⟩, 2, 2) l).take (rm most)) (ka, ki)) w') := hG
              unfold pt kc vc at HG2
              simp only at HG2
              clear hG hr
              go_wp2_with fail
              go_region
              all_goals go_wp2_with fail
              all_goals go_must (go_at_call 23)
              all_goals refine (HG2.out).mono ?_
              all_goals rintro r w6 ⟨rfl, h6⟩
              all_goals obtain ⟨F6, hT6, _⟩ := T5.out.used h6
              all_goals have hb6 := (h6.2.block w3.heap.size (Array.getElem?_eq_some_iff.1 HB5.out.1).1 HB5.out.2).trans HB5.out.1
              all_goals have m1 : w6.cell? ⟨w3.heap.size, 1, none⟩ = some (.int .i64 ((i : Int) + 1)) := box_cells hb6 1 _ rfl
              all_goals have T6 : Hid (∃ l F, HT w w6 w1.heap.size (rm most) ad l F) := ⟨_, _, hT6.tt⟩
              all_goals clear h6 hT6 hb6
              all_goals go_wp2_with fail
              all_goals go_roundg gk
              case measure => omega
              case rel => exact ⟨i + 1, ad, by omega, by first | rfl | simp, by first | rfl | simp, HA3, T6⟩
            · rw [if_neg hr] at hG
              have HG2 : Hid (Calls Try.prog 23 #[pt w1.heap.size, kc (ka, ki)] (w4.drew.setCell ⟨w3.heap.size, 1, none⟩ (.int .i64 ((i : Int) + 1))) fun r w' => r = .returned (.tuple #[vc (some ⟨w3.heap.size, 0, none⟩, 2, 2), .bool true]) ∧ Aft (w4.drew.setCell ⟨w3.heap.size, 1, none⟩ (.int .i64 ((i : Int) + 1))) w1.heap.size (rm most) F4 (lused ((ltop (ka, ki) (some ⟨w3.heap.size, 0, none⟩, 2, 2) l).take (rm most)) (ka, ki)) w') := hG
              unfold pt kc vc at HG2
              simp only at HG2
              clear hG hr
              go_wp2_with fail
              go_region
              all_goals go_wp2_with fail
              all_goals go_must (go_at_call 23)
              all_goals refine (HG2.out).mono ?_
              all_goals rintro r w6 ⟨rfl, h6⟩
              all_goals obtain ⟨F6, hT6, _⟩ := T5.out.used h6
              all_goals have hb6 := (h6.2.block w3.heap.size (Array.getElem?_eq_some_iff.1 HB5.out.1).1 HB5.out.2).trans HB5.out.1
              all_goals have m1 : w6.cell? ⟨w3.heap.size, 1, none⟩ = some (.int .i64 ((i : Int) + 1)) := box_cells hb6 1 _ rfl
              all_goals have T6 : Hid (∃ l F, HT w w6 w1.heap.size (rm most) ad l F) := ⟨_, _, hT6.tt⟩
              all_goals clear h6 hT6 hb6
              all_goals go_wp2_with fail
              all_goals go_roundg gk
              case measure => omega
              case rel => exact ⟨i + 1, ad, by omega, by first | rfl | simp, by first | rfl | simp, HA3, T6⟩
end Go.Proofs.Ytdhinpmjbcohaaa
